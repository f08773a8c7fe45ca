/- What the proof of ProblemCopies stands on, part 22. -/
import Derived.Test.YtgmgccepmalahaaGreatCpAO
import Derived.Test.YtgmgccepmalahaaGreatCpAQ
import Derived.Test.YtgmgccepmalahaaGreatCpAR
import Derived.Test.YtgmgccepmalahaaGreatCpAS
import Derived.Test.YtgmgccepmalahaaGreatCpAU
namespace Go.Proofs.YtgmgccepmalahaaGreat
open Go.RowKit
open Whn (Gr Wh)
theorem map_same {α β : Type} {f : α → β} {l l' : List α} (hl : l'.length = l.length) (h : ∀ (j : Nat) (y y' : α), l[j]? = some y → l'[j]? = some y' → f y' = f y) : l'.map f = l.map f := by
 refine List.ext_getElem? fun j => ?_
 rw [List.getElem?_map, List.getElem?_map]
 rcases Nat.lt_or_ge j l.length with hj | hj
 · have h1 := List.getElem?_eq_getElem hj
   have h2 := List.getElem?_eq_getElem (l := l') (i := j) (by omega)
   rw [h1, h2]
   exact congrArg some (h j _ _ h1 h2)
 · rw [List.getElem?_eq_none hj, List.getElem?_eq_none (by omega)]
theorem EaRet.cp {α : Type} {en : α → List Value} {T K : Nat} {R : α → α → Prop} {E : ElQ α} {l : List α} {Q : CpQ} {w w' : World} {e : Ending} (h : EaRet en T K R E l w e w')
    (hQ : ∀ A c (l' : List α), l'.length = l.length → (∀ (j : Nat) (y y' : α), l[j]? = some y → l'[j]? = some y' → R y y') → w'.ownsRow w.heap.size T K (.slice A l.length c) l.length (ecells en l') → (∀ y' ∈ l', E w.heap.size y' w') → Q w.heap.size A l.length c w') : CpRet Q w e w' := by
 obtain ⟨v, l', rfl, ho, hl, hR, hE, hb⟩ := h
 have hv : ∃ A c, v = .slice A l.length c := by
  rcases ho.2 with ⟨rfl, h0⟩ | ⟨g, cap, cur, rfl, _⟩
  · exact ⟨none, 0, by rw [h0]⟩
  · exact ⟨_, _, rfl⟩
 obtain ⟨A, c, rfl⟩ := hv
 exact ⟨A, _, c, rfl, hQ A c l' hl hR ho hE, hb⟩
def RowQ {α β : Type} (en : α → List Value) (T K : Nat) (f : α → β) (E : ElQ α) (ds : List β) : CpQ := fun b A m c X => ∃ zs : List α, zs.map f = ds ∧ zs.length = m ∧ X.ownsRow b T K (.slice A m c) m (ecells en zs) ∧ ∀ z ∈ zs, E b z X
theorem RowQ_ok {α β : Type} {en : α → List Value} {T K : Nat} {f : α → β} {E : ElQ α} (S : ElOk E T K) (ds : List β) : CpOk (RowQ en T K f E ds) :=
 ⟨fun _ _ _ _ _ _ h ha => by
  obtain ⟨zs, h1, h2, h3, h4⟩ := h
  exact ⟨zs, h1, h2, own_abv h3 ha, fun z hz => S.keep _ _ _ _ (h4 z hz) ha⟩,
  fun _ _ _ _ _ _ h hb => by
   obtain ⟨zs, h1, h2, h3, h4⟩ := h
   exact ⟨zs, h1, h2, own_mono h3 hb, fun z hz => S.low _ _ _ _ (h4 z hz) hb⟩⟩
theorem EaRet.row {α β : Type} {en : α → List Value} {T K : Nat} {f : α → β} {E : ElQ α} {l : List α} {w w' : World} {e : Ending} (h : EaRet en T K (fun x z => f z = f x) E l w e w') : CpRet (RowQ en T K f E (l.map f)) w e w' :=
 h.cp fun _ _ l' hl hR ho hE => ⟨l', map_same hl hR, hl, ho, hE⟩
theorem rows2_es {w : World} {B : Nat} {A : Option Addr} {ls : List (List Int)} (h : Rows2 w B A ls) : ∃ zs : List ItA, zs.map (·.l) = ls ∧ zs.length = ls.length ∧ Es enI w B A zs ∧ ∀ z ∈ zs, Its w B z.a z.l := by
 by_cases hne : ls = []
 · subst hne
   exact ⟨[], rfl, rfl, fun h => absurd rfl h, fun _ h => by cases h⟩
 · obtain ⟨ad, rfl, hb, hc⟩ := h hne
   have hex : ∀ k : Nat, ∃ z : ItA, ∀ l, ls[k]? = some l → z.l = l ∧ w.cell? (ad.add k) = some (.slice z.a z.l.length z.c) ∧ Its w B z.a z.l := fun k => by
    cases hk : ls[k]? with
    | none => exact ⟨⟨[], none, 0⟩, fun _ h => by cases h⟩
    | some l =>
     obtain ⟨Ak, ck, h1, h2, _⟩ := hc k l hk
     exact ⟨⟨l, Ak, ck⟩, fun l' e => by injection e with e; subst e; exact ⟨rfl, h1, h2⟩⟩
   have hg : ∀ k z, ((List.range ls.length).map fun i => Classical.choose (hex i))[k]? = some z → ∃ l, ls[k]? = some l ∧ z.l = l ∧ w.cell? (ad.add k) = some (.slice z.a z.l.length z.c) ∧ Its w B z.a z.l := fun k z hz => by
    rw [List.getElem?_map] at hz
    rcases Nat.lt_or_ge k ls.length with hk | hk
    · rw [List.getElem?_range hk] at hz
      injection hz with hz
      have hl := List.getElem?_eq_getElem hk
      refine ⟨_, hl, ?_⟩
      rw [← hz]
      exact Classical.choose_spec (hex k) _ hl
    · rw [List.getElem?_eq_none (by rw [List.length_range]; exact hk)] at hz
      cases hz
   refine ⟨(List.range ls.length).map fun i => Classical.choose (hex i), ?_, by rw [List.length_map, List.length_range], fun _ => ⟨ad, rfl, hb, ?_⟩, fun z hz => ?_⟩
   · refine List.ext_getElem? fun k => ?_
     rcases Nat.lt_or_ge k ls.length with hk | hk
     · have h1 := List.getElem?_eq_getElem (l := (List.range ls.length).map fun i => Classical.choose (hex i)) (i := k) (by rw [List.length_map, List.length_range]; exact hk)
       obtain ⟨l, hl, h2, _⟩ := hg k _ h1
       rw [List.getElem?_map, h1, hl]
       exact congrArg some h2
     · rw [List.getElem?_eq_none hk, List.getElem?_eq_none (by rw [List.length_map, List.length_map, List.length_range]; exact hk)]
   · refine ecells_read (K := 1) (fun _ => rfl) (by decide) fun i x hx j v hv => ?_
     obtain ⟨l, _, _, h3, _⟩ := hg i x hx
     have hj : j = 0 := by have := (List.getElem?_eq_some_iff.1 hv).1; simp only [List.length_singleton] at this; omega
     subst hj
     rw [Nat.mul_one, Nat.add_zero]
     injection hv with hv
     rw [← hv]
     exact h3
   · obtain ⟨k, hk⟩ := List.mem_iff_getElem?.1 hz
     obtain ⟨l, _, _, _, h4⟩ := hg k z hk
     exact h4
end Go.Proofs.YtgmgccepmalahaaGreat
namespace Go.Proofs.YtgmgccepmalahaaGreat
open Go.RowKit
open Whn (Gr Wh)
abbrev I2Q (ls : List (List Int)) : CpQ := RowQ enI 43 1 (fun z => z.l) ItE ls
theorem I2Q_ok (ls : List (List Int)) : CpOk (I2Q ls) := RowQ_ok (OwE_ok (by decide)) ls
theorem p_copyInts2 (ls : List (List Int)) (A : Option Addr) (c : Nat) (hm : ls.length * 24 ≤ 140737488355328) (hl : ∀ l ∈ ls, l.length * 8 ≤ 140737488355328) (w : World) (h : Rows2 w w.heap.size A ls) :
    Calls Tryz.prog 71 #[.slice A ls.length c, .func (.func 72) #[] #[]] w (CpRet (I2Q ls) w) := by
 obtain ⟨zs, rfl, hz, hE, hI⟩ := rows2_es h
 rw [← hz] at hm ⊢
 refine (p_eachInts A c zs hm (fun x z => z.l = x.l) ItE (OwE_ok (by decide)) w hE (fun y hy X hX => ?_)).mono fun _ _ h => h.row
 exact p_copyInts y (hl _ (List.mem_map.2 ⟨y, hy, rfl⟩)) X (((hI y hy).below hX (Nat.le_refl _)).more hX.size)
def WyE : ElQ WyA := fun b y X => I2Q y.l b y.a y.l.length y.c X
theorem WyE_ok {T2 K2 : Nat} (h0 : 3 ≠ T2) (h1 : 43 ≠ T2) : ElOk WyE T2 K2 :=
 ⟨fun _ _ _ _ h ha => (I2Q_ok _).keep _ _ _ _ _ _ h ha, fun _ _ _ _ h hb => (I2Q_ok _).low _ _ _ _ _ _ h hb,
  fun _ _ _ _ _ _ _ _ h g hg => by
   obtain ⟨zs, k1, k2, k3, k4⟩ := h
   exact ⟨zs, k1, k2, own_grown17 k3 g h1 hg, fun z hz => own_grown17 (k4 z hz) g h0 hg⟩⟩
theorem p_copyWay (y : WyA) (hm : y.l.length * 24 ≤ 140737488355328) (hl : ∀ l ∈ y.l, l.length * 8 ≤ 140737488355328) (w : World) (h : Rows2 w w.heap.size y.a y.l) :
    Calls Tryz.prog 154 #[.agg #[.slice y.a y.l.length y.c]] w (ElRet (fun y => .agg #[.slice y.a y.l.length y.c]) (fun x z => z.l = x.l) WyE y w) := by
 refine (p_copyWayG y.a y.l.length y.c w _ (I2Q_ok y.l) (fun X hX => p_copyInts2 y.l y.a y.c hm hl X ((h.below hX (Nat.le_refl _)).more hX.size))).mono ?_
 rintro e w' ⟨A, n, d, rfl, ⟨zs, k1, k2, k3, k4⟩, hb⟩
 have hn : n = y.l.length := by rw [← k2, ← k1, List.length_map]
 subst hn
 exact ⟨⟨y.l, A, d⟩, rfl, rfl, ⟨zs, k1, k2, k3, k4⟩, hb⟩
end Go.Proofs.YtgmgccepmalahaaGreat
namespace Go.Proofs.YtgmgccepmalahaaGreat
open Go.RowKit
open Whn (Gr Wh)
theorem rows3_es {w : World} {B : Nat} {A : Option Addr} {ws : List (List (List Int))} (h : Rows3 w B A ws) : ∃ zs : List WyA, zs.map (·.l) = ws ∧ zs.length = ws.length ∧ Es enW w B A zs ∧ ∀ z ∈ zs, Rows2 w B z.a z.l := by
 by_cases hne : ws = []
 · subst hne
   exact ⟨[], rfl, rfl, fun h => absurd rfl h, fun _ h => by cases h⟩
 · obtain ⟨ad, rfl, hb, hc⟩ := h hne
   have hex : ∀ k : Nat, ∃ z : WyA, ∀ l, ws[k]? = some l → z.l = l ∧ w.cell? (ad.add k) = some (.slice z.a z.l.length z.c) ∧ Rows2 w B z.a z.l := fun k => by
    cases hk : ws[k]? with
    | none => exact ⟨⟨[], none, 0⟩, fun _ h => by cases h⟩
    | some l =>
     obtain ⟨Ak, ck, h1, h2, _⟩ := hc k l hk
     exact ⟨⟨l, Ak, ck⟩, fun l' e => by injection e with e; subst e; exact ⟨rfl, h1, h2⟩⟩
   have hg : ∀ k z, ((List.range ws.length).map fun i => Classical.choose (hex i))[k]? = some z → ∃ l, ws[k]? = some l ∧ z.l = l ∧ w.cell? (ad.add k) = some (.slice z.a z.l.length z.c) ∧ Rows2 w B z.a z.l := fun k z hz => by
    rw [List.getElem?_map] at hz
    rcases Nat.lt_or_ge k ws.length with hk | hk
    · rw [List.getElem?_range hk] at hz
      injection hz with hz
      have hl := List.getElem?_eq_getElem hk
      refine ⟨_, hl, ?_⟩
      rw [← hz]
      exact Classical.choose_spec (hex k) _ hl
    · rw [List.getElem?_eq_none (by rw [List.length_range]; exact hk)] at hz
      cases hz
   refine ⟨(List.range ws.length).map fun i => Classical.choose (hex i), ?_, by rw [List.length_map, List.length_range], fun _ => ⟨ad, rfl, hb, ?_⟩, fun z hz => ?_⟩
   · refine List.ext_getElem? fun k => ?_
     rcases Nat.lt_or_ge k ws.length with hk | hk
     · have h1 := List.getElem?_eq_getElem (l := (List.range ws.length).map fun i => Classical.choose (hex i)) (i := k) (by rw [List.length_map, List.length_range]; exact hk)
       obtain ⟨l, hl, h2, _⟩ := hg k _ h1
       rw [List.getElem?_map, h1, hl]
       exact congrArg some h2
     · rw [List.getElem?_eq_none hk, List.getElem?_eq_none (by rw [List.length_map, List.length_map, List.length_range]; exact hk)]
   · refine ecells_read (K := 1) (fun _ => rfl) (by decide) fun i x hx j v hv => ?_
     obtain ⟨l, _, _, h3, _⟩ := hg i x hx
     have hj : j = 0 := by have := (List.getElem?_eq_some_iff.1 hv).1; simp only [List.length_singleton] at this; omega
     subst hj
     rw [Nat.mul_one, Nat.add_zero]
     injection hv with hv
     rw [← hv]
     exact h3
   · obtain ⟨k, hk⟩ := List.mem_iff_getElem?.1 hz
     obtain ⟨l, _, _, _, h4⟩ := hg k z hk
     exact h4
abbrev W3Q (ws : List (List (List Int))) : CpQ := RowQ enW 67 1 (fun z => z.l) WyE ws
theorem W3Q_ok (ws : List (List (List Int))) : CpOk (W3Q ws) := RowQ_ok (WyE_ok (by decide) (by decide)) ws
theorem p_copyWays (ws : List (List (List Int))) (A : Option Addr) (c : Nat) (hm : ws.length * 24 ≤ 140737488355328) (hl : ∀ ls ∈ ws, ls.length * 24 ≤ 140737488355328 ∧ ∀ l ∈ ls, l.length * 8 ≤ 140737488355328) (w : World) (h : Rows3 w w.heap.size A ws) :
    Calls Tryz.prog 153 #[.slice A ws.length c, .func (.func 154) #[] #[]] w (CpRet (W3Q ws) w) := by
 obtain ⟨zs, rfl, hz, hE, hI⟩ := rows3_es h
 rw [← hz] at hm ⊢
 refine (p_eachWay A c zs hm (fun x z => z.l = x.l) WyE (WyE_ok (by decide) (by decide)) w hE (fun y hy X hX => ?_)).mono fun _ _ h => h.row
 have hk := hl _ (List.mem_map.2 ⟨y, hy, rfl⟩)
 exact p_copyWay y hk.1 hk.2 X (((hI y hy).below hX (Nat.le_refl _)).more hX.size)
def CsE : ElQ CsA := fun b y X => W3Q y.x.ws b y.a y.x.ws.length y.c X
theorem CsE_ok {T2 K2 : Nat} (h0 : 3 ≠ T2) (h1 : 43 ≠ T2) (h2 : 67 ≠ T2) : ElOk CsE T2 K2 :=
 ⟨fun _ _ _ _ h ha => (W3Q_ok _).keep _ _ _ _ _ _ h ha, fun _ _ _ _ h hb => (W3Q_ok _).low _ _ _ _ _ _ h hb,
  fun _ _ _ _ _ _ _ _ h g hg => by
   obtain ⟨zs, k1, k2, k3, k4⟩ := h
   exact ⟨zs, k1, k2, own_grown17 k3 g h2 hg, fun z hz => (WyE_ok h0 h1).grow _ _ _ _ _ _ _ _ (k4 z hz) g hg⟩⟩
theorem p_copyCourse (y : CsA) (hm : y.x.ws.length * 24 ≤ 140737488355328) (hl : ∀ ls ∈ y.x.ws, ls.length * 24 ≤ 140737488355328 ∧ ∀ l ∈ ls, l.length * 8 ≤ 140737488355328) (w : World) (h : Rows3 w w.heap.size y.a y.x.ws) :
    Calls Tryz.prog 78 #[csvA y] w (ElRet (fun y => csvA y) (fun x z => z.x = x.x) CsE y w) := by
 refine (p_copyCourseG y.x.n y.a y.x.ws.length y.c w _ (W3Q_ok y.x.ws) (fun X hX => p_copyWays y.x.ws y.a y.c hm hl X ((h.below hX (Nat.le_refl _)).more hX.size))).mono ?_
 rintro e w' ⟨A, n, d, rfl, ⟨zs, k1, k2, k3, k4⟩, hb⟩
 have hn : n = y.x.ws.length := by rw [← k2, ← k1, List.length_map]
 subst hn
 exact ⟨⟨y.x, A, d⟩, rfl, rfl, ⟨zs, k1, k2, k3, k4⟩, hb⟩
end Go.Proofs.YtgmgccepmalahaaGreat
namespace Go.Proofs.YtgmgccepmalahaaGreat
open Go.RowKit
open Whn (Gr Wh)
theorem own_rdK {w : World} {b T K n c : Nat} {A : Option Addr} {xs : List Value} (h : w.ownsRow b T K (.slice A n c) n xs) : Rd w w.heap.size A xs ∧ n ≤ c ∧ c ≤ maxLen := by
 rcases h.2 with ⟨e, h0⟩ | ⟨g, cap, cur, e, _, hg, hn, hc, _⟩
 · injection e with e1 _ e2
   subst e1; subst e2; subst h0
   have : xs = [] := List.eq_nil_of_length_eq_zero (by rw [h.1, Nat.zero_mul])
   subst this
   exact ⟨Rd.none_ _ _ _, Nat.le_refl _, Nat.zero_le _⟩
 · injection e with e1 _ e2
   subst e1; subst e2
   exact ⟨fun _ => ⟨_, rfl, (Array.getElem?_eq_some_iff.1 hg).1, fun k u hk => h.cells rfl k u hk⟩, hn, hc⟩
theorem es_rows2 {w : World} {B : Nat} {A : Option Addr} {zs : List ItA} (hE : Es enI w B A zs) (hI : ∀ z ∈ zs, Its w B z.a z.l ∧ z.l.length ≤ z.c) : Rows2 w B A (zs.map (·.l)) := fun hn => by
 obtain ⟨ad, e, hb, _⟩ := hE (ecells_ne (K := 1) (fun _ => rfl) (by decide) (fun e => by rw [e] at hn; exact hn rfl))
 subst e
 refine ⟨ad, rfl, hb, fun k l hl => ?_⟩
 rw [List.getElem?_map] at hl
 cases hk : zs[k]? with
 | none => rw [hk] at hl; cases hl
 | some z =>
  rw [hk] at hl
  injection hl with hl
  subst hl
  have h1 := es_at (K := 1) (fun _ => rfl) hE hk 0 _ rfl
  rw [Nat.mul_one, Nat.add_zero] at h1
  have h2 := hI z (List.mem_of_getElem? hk)
  exact ⟨z.a, z.c, h1, h2.1, h2.2⟩
theorem es_rows3 {w : World} {B : Nat} {A : Option Addr} {zs : List WyA} (hE : Es enW w B A zs) (hI : ∀ z ∈ zs, Rows2 w B z.a z.l ∧ z.l.length ≤ z.c) : Rows3 w B A (zs.map (·.l)) := fun hn => by
 obtain ⟨ad, e, hb, _⟩ := hE (ecells_ne (K := 1) (fun _ => rfl) (by decide) (fun e => by rw [e] at hn; exact hn rfl))
 subst e
 refine ⟨ad, rfl, hb, fun k l hl => ?_⟩
 rw [List.getElem?_map] at hl
 cases hk : zs[k]? with
 | none => rw [hk] at hl; cases hl
 | some z =>
  rw [hk] at hl
  injection hl with hl
  subst hl
  have h1 := es_at (K := 1) (fun _ => rfl) hE hk 0 _ rfl
  rw [Nat.mul_one, Nat.add_zero] at h1
  have h2 := hI z (List.mem_of_getElem? hk)
  exact ⟨z.a, z.c, h1, h2.1, h2.2⟩
theorem I2Q.read {ls : List (List Int)} {b n c : Nat} {A : Option Addr} {w : World} (h : I2Q ls b A n c w) : ls.length = n ∧ Rows2 w w.heap.size A ls ∧ n ≤ c ∧ c ≤ maxLen := by
 obtain ⟨zs, rfl, hz, ho, hE⟩ := h
 have h1 := own_rdK ho
 refine ⟨by rw [List.length_map, hz], es_rows2 h1.1 fun z hz => ?_, h1.2⟩
 have h2 := own_rdK (hE z hz)
 exact ⟨h2.1, h2.2.1⟩
theorem W3Q.read {ws : List (List (List Int))} {b n c : Nat} {A : Option Addr} {w : World} (h : W3Q ws b A n c w) : ws.length = n ∧ Rows3 w w.heap.size A ws ∧ n ≤ c ∧ c ≤ maxLen := by
 obtain ⟨zs, rfl, hz, ho, hE⟩ := h
 have h1 := own_rdK ho
 refine ⟨by rw [List.length_map, hz], es_rows3 h1.1 fun z hz => ?_, h1.2⟩
 have h2 := I2Q.read (hE z hz)
 exact ⟨h2.2.1, h2.2.2.1⟩
structure PbOwn (b : Nat) (w : World) (q : PbA) : Prop where
 rm : w.ownsRow b 52 4 (.slice q.r0 q.rm.length q.c0) q.rm.length (ecells enR q.rm)
 rmE : ∀ z ∈ q.rm, RmE b z w
 wk : I2Q q.wk b q.r1 q.wk.length q.c1 w
 ps : w.ownsRow b 57 2 (.slice q.r2 q.ps.length q.c2) q.ps.length (ecells enQ q.ps)
 psE : ∀ z ∈ q.ps, PsE b z w
 cl : w.ownsRow b 62 7 (.slice q.r3 q.cl.length q.c3) q.cl.length (ecells enC q.cl)
 clE : ∀ z ∈ q.cl, ClE b z w
 cs : w.ownsRow b 65 2 (.slice q.r4 q.cs.length q.c4) q.cs.length (ecells enK q.cs)
 csE : ∀ z ∈ q.cs, CsE b z w
 st : w.ownsRow b 70 2 (.slice q.r5 q.st.length q.c5) q.st.length (ecells enS q.st)
 stE : ∀ z ∈ q.st, StE b z w
 rl : w.ownsRow b 45 6 (.slice q.r6 q.rl.length q.c6) q.rl.length (ecells enU q.rl)
 rlE : ∀ z ∈ q.rl, RlE b z w
theorem PbOwn.abv {b : Nat} {w w' : World} {q : PbA} (h : PbOwn b w q) (ha : Abv b w w') : PbOwn b w' q where
 rm := own_abv h.rm ha
 rmE := fun z hz => own_abv (h.rmE z hz) ha
 wk := (I2Q_ok _).keep _ _ _ _ _ _ h.wk ha
 ps := own_abv h.ps ha
 psE := fun z hz => own_abv (h.psE z hz) ha
 cl := own_abv h.cl ha
 clE := fun z hz => (ClE_ok (T2 := 62) (K2 := 7) (by decide) (by decide) (by decide)).keep _ _ _ _ (h.clE z hz) ha
 cs := own_abv h.cs ha
 csE := fun z hz => (W3Q_ok _).keep _ _ _ _ _ _ (h.csE z hz) ha
 st := own_abv h.st ha
 stE := fun z hz => own_abv (h.stE z hz) ha
 rl := own_abv h.rl ha
 rlE := fun z hz => own_abv (h.rlE z hz) ha
theorem mem_same17 {α β : Type} {f : α → β} {l l' : List α} (h : l.map f = l'.map f) : ∀ z ∈ l, ∃ y ∈ l', f y = f z := fun z hz => by
 have h1 : f z ∈ l.map f := List.mem_map.2 ⟨z, hz, rfl⟩
 rw [h] at h1
 exact List.mem_map.1 h1
theorem PbOwn.within {b : Nat} {w w' : World} {x q : PbA} (hx : PbIn w x) (h : PbOwn b w' q) (hp : q.p = x.p) : PbIn w' q := by
 have en : q.n = x.n := congrArg Pb.n hp
 have eg : q.g = x.g := congrArg Pb.g hp
 have e0 : q.rm.map (·.r) = x.rm.map (·.r) := congrArg Pb.rm hp
 have e1 : q.wk = x.wk := congrArg Pb.wk hp
 have e2 : q.ps.map (·.r) = x.ps.map (·.r) := congrArg Pb.ps hp
 have e3 : q.cl.map (·.x) = x.cl.map (·.x) := congrArg Pb.cl hp
 have e4 : q.cs.map (·.x) = x.cs.map (·.x) := congrArg Pb.cs hp
 have e5 : q.st.map (·.x) = x.st.map (·.x) := congrArg Pb.st hp
 have e6 : q.rl.map (·.x) = x.rl.map (·.x) := congrArg Pb.rl hp
 have m0 : ∀ z ∈ q.rm, ∃ y ∈ x.rm, y.r = z.r := mem_same17 e0
 have m2 : ∀ z ∈ q.ps, ∃ y ∈ x.ps, y.r = z.r := mem_same17 e2
 have m3 : ∀ z ∈ q.cl, ∃ y ∈ x.cl, y.x = z.x := mem_same17 e3
 have m4 : ∀ z ∈ q.cs, ∃ y ∈ x.cs, y.x = z.x := mem_same17 e4
 have m5 : ∀ z ∈ q.st, ∃ y ∈ x.st, y.x = z.x := mem_same17 e5
 have m6 : ∀ z ∈ q.rl, ∃ y ∈ x.rl, y.x = z.x := mem_same17 e6
 constructor
 · rw [en]; exact hx.hn
 · rw [eg]; exact hx.hg
 · exact (own_rdK h.rm).1
 · intro z hz
   obtain ⟨y, hy, e⟩ := m0 z hz
   have h1 := own_rdK (h.rmE z hz)
   exact ⟨e ▸ (hx.rmI y hy).1, h1.1, h1.2⟩
 · exact (own_rdK h.rm).2
 · exact (I2Q.read (b := b) h.wk).2.1
 · rw [e1]; exact hx.wkI
 · exact (I2Q.read (b := b) h.wk).2.2
 · exact (own_rdK h.ps).1
 · intro z hz
   obtain ⟨y, hy, e⟩ := m2 z hz
   have h1 := own_rdK (h.psE z hz)
   exact ⟨e ▸ (hx.psI y hy).1, h1.1, h1.2⟩
 · exact (own_rdK h.ps).2
 · exact (own_rdK h.cl).1
 · intro z hz
   obtain ⟨y, hy, e⟩ := m3 z hz
   obtain ⟨g0, g1, g2⟩ := h.clE z hz
   have h0 := own_rdK g0
   have h1 := own_rdK g1
   have h2 := own_rdK g2
   exact ⟨e ▸ (hx.clI y hy).1, ⟨h0.1, h1.1, h2.1⟩, h0.2, h1.2, h2.2⟩
 · exact (own_rdK h.cl).2
 · exact (own_rdK h.cs).1
 · intro z hz
   obtain ⟨y, hy, e⟩ := m4 z hz
   have h1 := W3Q.read (h.csE z hz)
   have h2 := hx.csI y hy
   exact ⟨e ▸ h2.1, h1.2.1, h1.2.2, e ▸ h2.2.2.2⟩
 · exact (own_rdK h.cs).2
 · exact (own_rdK h.st).1
 · intro z hz
   obtain ⟨y, hy, e⟩ := m5 z hz
   have h1 := own_rdK (h.stE z hz)
   have h2 := hx.stI y hy
   exact ⟨e ▸ h2.1, h1.1, h1.2, e ▸ h2.2.2.2⟩
 · exact (own_rdK h.st).2
 · exact (own_rdK h.rl).1
 · intro z hz
   obtain ⟨y, hy, e⟩ := m6 z hz
   have h1 := own_rdK (h.rlE z hz)
   exact ⟨e ▸ (hx.rlI y hy).1, h1.1, h1.2⟩
 · exact (own_rdK h.rl).2
 · have a0 : q.w0 = x.w0 := congrArg Pb.w0 hp
   have a1 : q.w1 = x.w1 := congrArg Pb.w1 hp
   have a2 : q.w2 = x.w2 := congrArg Pb.w2 hp
   have a3 : q.w3 = x.w3 := congrArg Pb.w3 hp
   rw [a0, a1, a2, a3]
   exact hx.hw
def PbCopied (x : PbA) (w : World) (e : Ending) (w' : World) : Prop := ∃ q : PbA, e = .returned (pbv q) ∧ q.p = x.p ∧ PbOwn w.heap.size w' q ∧ PbIn w' q ∧ Below w.heap.size w w'
def PbFits (x : PbA) : Prop := x.rm.length ≤ 1000000 ∧ x.wk.length ≤ 1000000 ∧ x.ps.length ≤ 1000000 ∧ x.cl.length ≤ 1000000 ∧ x.cs.length ≤ 1000000 ∧ x.st.length ≤ 1000000 ∧ x.rl.length ≤ 1000000
set_option maxRecDepth 20000 in
set_option maxHeartbeats 4000000 in
theorem p_Copy17 (x : PbA) (hf : PbFits x) (hz : PbBig x) (w : World) (h : PbIn w x) : Calls Tryz.prog 18 #[pbv x] w (PbCopied x w) := by
 obtain ⟨f0, f1, f2, f3, f4, f5, f6⟩ := hf
 have hr : reachBytes ≤ 140737488355328 := by decide
 refine (p_CopyG x w (RowQ enR 52 4 (fun z => z.r) RmE (x.rm.map (·.r))) (I2Q x.wk) (RowQ enQ 57 2 (fun z => z.r) PsE (x.ps.map (·.r))) (RowQ enC 62 7 (fun z => z.x) ClE (x.cl.map (·.x))) (RowQ enK 65 2 (fun z => z.x) CsE (x.cs.map (·.x))) (RowQ enS 70 2 (fun z => z.x) StE (x.st.map (·.x))) (RowQ enU 45 6 (fun z => z.x) RlE (x.rl.map (·.x)))
  (RowQ_ok (OwE_ok (by decide)) _) (I2Q_ok _) (RowQ_ok (OwE_ok (by decide)) _) (RowQ_ok (ClE_ok (by decide) (by decide) (by decide)) _) (RowQ_ok (CsE_ok (by decide) (by decide) (by decide)) _) (RowQ_ok (OwE_ok (by decide)) _) (RowQ_ok (OwE_ok (by decide)) _)
  (fun X hX => ?_) (fun X hX => ?_) (fun X hX => ?_) (fun X hX => ?_) (fun X hX => ?_) (fun X hX => ?_) (fun X hX => ?_)).mono ?_
 · refine (p_eachRoom x.r0 x.c0 x.rm (by omega) (fun x z => z.r = x.r) RmE (OwE_ok (by decide)) X (Es.next h.rm hX) (fun y hy Y hY => ?_)).mono fun _ _ h => h.row
   exact p_copyRoom y (Nat.le_trans (hz.rm y hy).2 hr) Y (((h.rmI y hy).next hX).next hY).2.1
 · exact p_copyInts2 x.wk x.r1 x.c1 (by omega) (fun l hl => Nat.le_trans (hz.wk l hl) hr) X (Rows2.next h.wk hX)
 · refine (p_eachPerson x.r2 x.c2 x.ps (by omega) (fun x z => z.r = x.r) PsE (OwE_ok (by decide)) X (Es.next h.ps hX) (fun y hy Y hY => ?_)).mono fun _ _ h => h.row
   exact p_copyPerson y (Nat.le_trans (hz.ps y hy).2 hr) Y (((h.psI y hy).next hX).next hY).2.1
 · refine (p_eachClass x.r3 x.c3 x.cl (by omega) (fun x z => z.x = x.x) ClE (ClE_ok (by decide) (by decide) (by decide)) X (Es.next h.cl hX) (fun y hy Y hY => ?_)).mono fun _ _ h => h.row
   have hk := hz.cl y hy
   exact p_copyClass y (Nat.le_trans hk.1 hr) (Nat.le_trans hk.2.1 hr) (Nat.le_trans hk.2.2 hr) Y (((h.clI y hy).next hX).next hY).2.1
 · refine (p_eachCourse x.r4 x.c4 x.cs (by omega) (fun x z => z.x = x.x) CsE (CsE_ok (by decide) (by decide) (by decide)) X (Es.next h.cs hX) (fun y hy Y hY => ?_)).mono fun _ _ h => h.row
   have hk := hz.cs y hy
   exact p_copyCourse y (Nat.le_trans hk.1 hr) (fun ls hl => ⟨Nat.le_trans (hk.2 ls hl).1 hr, fun l hll => Nat.le_trans ((hk.2 ls hl).2 l hll) hr⟩) Y (((h.csI y hy).next hX).next hY).2.1
 · refine (p_eachStudent x.r5 x.c5 x.st (by omega) (fun x z => z.x = x.x) StE (OwE_ok (by decide)) X (Es.next h.st hX) (fun y hy Y hY => ?_)).mono fun _ _ h => h.row
   exact p_copyStudent y (Nat.le_trans (hz.st y hy) hr) Y (((h.stI y hy).next hX).next hY).2.1
 · refine (p_eachRule x.r6 x.c6 x.rl (by omega) (fun x z => z.x = x.x) RlE (OwE_ok (by decide)) X (Es.next h.rl hX) (fun y hy Y hY => ?_)).mono fun _ _ h => h.row
   exact p_copyRule y (Nat.le_trans (hz.rl y hy) hr) Y (((h.rlI y hy).next hX).next hY).2.1
 · rintro e w' ⟨A0, n0, d0, A1, n1, d1, A2, n2, d2, A3, n3, d3, A4, n4, d4, A5, n5, d5, A6, n6, d6, rfl, ⟨l0, k0, rfl, o0, E0⟩, hq1, ⟨l2, k2, rfl, o2, E2⟩, ⟨l3, k3, rfl, o3, E3⟩, ⟨l4, k4, rfl, o4, E4⟩, ⟨l5, k5, rfl, o5, E5⟩, ⟨l6, k6, rfl, o6, E6⟩, hb⟩
   obtain rfl := (I2Q.read hq1).1
   have hp : PbA.p ⟨x.n, x.g, l0, x.wk, l2, l3, l4, l5, l6, x.w0, x.w1, x.w2, x.w3, A0, d0, A1, d1, A2, d2, A3, d3, A4, d4, A5, d5, A6, d6⟩ = x.p := by
    show Pb.mk _ _ (l0.map _) _ (l2.map _) (l3.map _) (l4.map _) (l5.map _) (l6.map _) _ _ _ _ = _
    rw [k0, k2, k3, k4, k5, k6]
    rfl
   have ho : PbOwn w.heap.size w' ⟨x.n, x.g, l0, x.wk, l2, l3, l4, l5, l6, x.w0, x.w1, x.w2, x.w3, A0, d0, A1, d1, A2, d2, A3, d3, A4, d4, A5, d5, A6, d6⟩ := ⟨o0, E0, hq1, o2, E2, o3, E3, o4, E4, o5, E5, o6, E6⟩
   exact ⟨_, rfl, hp, ho, ho.within h hp, hb⟩
end Go.Proofs.YtgmgccepmalahaaGreat
namespace Go.Proofs.YtgmgccepmalahaaGreat
open Go.RowKit
open Whn (Gr Wh)
structure Spl (T : List Nat) (b : Nat) (X Y : World) : Prop where
 base : b ≤ X.heap.size
 below : Below b X Y
 row : ∀ (g : Nat) (cur : Array Value) (e : Nat), b ≤ g → X.heap[g]? = some (.cells cur e (0, 0)) → ∃ cur', Y.heap[g]? = some (.cells cur' e (0, 0)) ∧ cur'.size = cur.size ∧ (∀ (k : Nat) A n c, cur[k]? = some (.slice A n c) → cur'[k]? = some (.slice A n c)) ∧ (e ∉ T → cur' = cur)
section
variable {T : List Nat} {b : Nat} {X Y Z : World}
theorem Spl.refl (hb : b ≤ X.heap.size) : Spl T b X X := ⟨hb, Below.refl _ _, fun _ cur _ _ hg => ⟨cur, hg, rfl, fun _ _ _ _ h => h, fun _ => rfl⟩⟩
theorem Spl.next (h : Spl T b X Y) (hb : Below Y.heap.size Y Z) : Spl T b X Z :=
 ⟨h.base, h.below.trans (hb.mono (Nat.le_trans h.base h.below.size)), fun g cur e hbg hg => by
  obtain ⟨cur', h1, h2⟩ := h.row g cur e hbg hg
  exact ⟨cur', (hb.block g (Array.getElem?_eq_some_iff.1 h1).1).trans h1, h2⟩⟩
theorem Spl.setAt (h : Spl T b X Y) {g : Nat} {cur : Array Value} {e k : Nat} (hbg : b ≤ g) (hg : X.heap[g]? = some (.cells cur e (0, 0))) (hT : e ∈ T) (hns : ∀ A n c, cur[k]? ≠ some (.slice A n c)) (v : Value) : Spl T b X (Y.setCell ⟨g, k, none⟩ v) :=
 ⟨h.base, h.below.setCell hbg v, fun g' cur' e' hbg' hg' => by
  obtain ⟨c2, h1, h2, h3, h4⟩ := h.row g' cur' e' hbg' hg'
  obtain ⟨hq, eq⟩ := Array.getElem?_eq_some_iff.1 h1
  by_cases hgg : g = g'
  · subst hgg
    rw [hg] at hg'
    injection hg' with hg'
    injection hg' with e1 e2
    subst e1
    subst e2
    refine ⟨c2.setIfInBounds k v, by simp [World.setCell, hq, Array.getElem_modify_self, eq], by simp [h2], fun j A n c hj => ?_, fun hn => absurd hT hn⟩
    have hkj : k ≠ j := fun e => by subst e; exact hns A n c hj
    rw [Array.getElem?_setIfInBounds_ne hkj]
    exact h3 j A n c hj
  · exact ⟨c2, by rw [← eq]; simp [World.setCell, hq, Array.getElem_modify, hgg], h2, h3, h4⟩⟩
theorem add_zero17 (g k : Nat) : (Addr.add ⟨g, 0, none⟩ k) = ⟨g, k, none⟩ := by
 unfold Addr.add
 split
 · rename_i h; rw [h]
 · simp
theorem own_block17 {w : World} {e K n c : Nat} {ad : Addr} {xs : List Value} (h : w.ownsRow b e K (.slice (some ad) n c) n xs) : ∃ g cur, ad = ⟨g, 0, none⟩ ∧ b ≤ g ∧ w.heap[g]? = some (.cells cur e (0, 0)) ∧ ∀ (k : Nat) (v : Value), xs[k]? = some v → cur[k]? = some v := by
 rcases h.2 with ⟨e, _⟩ | ⟨g, cap, cur, e, hb, hg, hn, hc, hs, ht⟩
 · cases e
 · injection e with e1 e2 e3
   injection e1 with e1
   refine ⟨g, cur, e1, hb, hg, fun (k : Nat) (v : Value) hk => ?_⟩
   rw [← ht, List.getElem?_take] at hk
   split at hk
   · simpa using hk
   · cases hk
section
variable {e K n c : Nat} {ad : Addr} {xs : List Value}
theorem Spl.slice (h : Spl T b X Y) (ho : X.ownsRow b e K (.slice (some ad) n c) n xs) {k : Nat} {A : Option Addr} {m d : Nat} (hk : xs[k]? = some (.slice A m d)) : Y.cell? (ad.add k) = some (.slice A m d) := by
 obtain ⟨g, cur, rfl, hb, hg, hc⟩ := own_block17 ho
 obtain ⟨c2, h1, _, h3, _⟩ := h.row g cur e hb hg
 rw [add_zero17]
 simp [World.cell?, h1, h3 k _ _ _ (hc k _ hk)]
theorem Spl.same (h : Spl T b X Y) (ho : X.ownsRow b e K (.slice (some ad) n c) n xs) (hT : e ∉ T) {k : Nat} {v : Value} (hk : xs[k]? = some v) : Y.cell? (ad.add k) = some v := by
 obtain ⟨g, cur, rfl, hb, hg, hc⟩ := own_block17 ho
 obtain ⟨c2, h1, _, _, h4⟩ := h.row g cur e hb hg
 rw [add_zero17]
 simp [World.cell?, h1, h4 hT, hc k _ hk]
theorem Spl.has (h : Spl T b X Y) (ho : X.ownsRow b e K (.slice (some ad) n c) n xs) {k : Nat} {v : Value} (hk : xs[k]? = some v) : ∃ u, Y.cell? (ad.add k) = some u := by
 obtain ⟨g, cur, rfl, hb, hg, hc⟩ := own_block17 ho
 obtain ⟨c2, h1, h2, _, _⟩ := h.row g cur e hb hg
 have hlt : k < c2.size := by rw [h2]; exact (Array.getElem?_eq_some_iff.1 (hc k _ hk)).1
 exact ⟨c2[k], by rw [add_zero17]; simp [World.cell?, h1, hlt]⟩
theorem Spl.free (h : Spl T b X Y) (ho : X.ownsRow b e K (.slice (some ad) n c) n xs) (k : Nat) : Y.frozen? (ad.add k) = false := by
 obtain ⟨g, cur, rfl, hb, hg, hc⟩ := own_block17 ho
 obtain ⟨c2, h1, _⟩ := h.row g cur e hb hg
 rw [add_zero17]
 simp [World.frozen?, h1]
theorem Spl.put (h : Spl T b X Y) (ho : X.ownsRow b e K (.slice (some ad) n c) n xs) (hT : e ∈ T) {k : Nat} {v : Value} (hk : xs[k]? = some v) (hv : ∀ A n c, v ≠ .slice A n c) (u : Value) : Spl T b X (Y.setCell (ad.add k) u) := by
 obtain ⟨g, cur, rfl, hb, hg, hc⟩ := own_block17 ho
 rw [add_zero17]
 refine h.setAt hb hg hT (fun A n c e => ?_) u
 rw [hc k _ hk] at e
 injection e with e
 exact hv A n c e
end
theorem Spl.ob (h : Spl T b X Y) {D t : Nat} {cs : List Value} (ho : Ob X D cs t) (hb : b ≤ D) (hT : t ∉ T) : Ob Y D cs t := by
 obtain ⟨c2, h1, _, _, h4⟩ := h.row D _ t hb ho
 rw [h4 hT] at h1
 exact h1
end
end Go.Proofs.YtgmgccepmalahaaGreat
namespace Go.Proofs.YtgmgccepmalahaaGreat
open Go.RowKit
open Whn (Gr Wh)
set_option maxRecDepth 20000 in
set_option maxHeartbeats 1000000 in
theorem r17_ints (A : Option Addr) (c : Nat) (l : List Int) (hm : l.length * 8 ≤ 140737488355328) (w : World) (h : Its w w.heap.size A l) :
    Calls Tryz.prog 68 #[.slice A l.length c] w (ClnRet 3 1 l.length (l.map (Value.int .i64)) w) := by
 have hS := hid (fun X (hX : Below w.heap.size w X) => src_its (P := Tryz.prog) X Tryz.underlying43 (c := c) rfl (h.below hX (Nat.le_refl _)))
 obtain ⟨i0, hi0, hz0, hz1, hz2⟩ := info_parts Tryz.info_int14
 have hL0 := hid (World.ownsRow_lit (base := w.heap.size) (e := 3) (size := 1) w #[] 0 (Nat.le_refl _) (by unfold maxLen; omega) (by rw [Nat.zero_mul]; rfl))
 have hb0 := below_alloc w (.cells #[] 3)
 have q1 : 0 + l.length ≤ maxLen := by unfold maxLen; omega
 have q2 : (0 + l.length) * 8 ≤ 140737488355328 := by omega
 clear h
 go_enter Tryz.func68, Tryz.ntmps68
 go_wp2_with (at_builtin; refine wpList_append_srcN rfl _ _ 43 43 rfl w.heap.size 3 i0 (.int .i64 0) 1 8 Tryz.underlying43 hi0 hz0 hz1 hz2 rfl _ _ _ rfl hL0.out _ _ _ rfl (hS.out _ hb0) q1 q2 hb0.size ?_; intro v1 w5 hown hgrow)
 go_ret
 refine ⟨v1, rfl, ?_, hb0.grown hgrow hb0.size (fun k hk => (hL0.out.lt k hk).1)⟩
 rw [Nat.zero_add] at hown
 exact hown
set_option maxRecDepth 20000 in
set_option maxHeartbeats 1000000 in
theorem r17_whens (A : Option Addr) (c : Nat) (l : List Wh) (hm : l.length * 24 ≤ 140737488355328) (w : World) (h : Es wc w w.heap.size A l) :
    Calls Tryz.prog 67 #[.slice A l.length c] w (ClnRet 55 4 l.length (ecells wc l) w) := by
 have hS := hid (fun X (hX : Below w.heap.size w X) => src_es17 (K := 4) (fun _ => rfl) (by decide) one_Whens (P := Tryz.prog) X Tryz.underlying50 (c := c) rfl (h.below hX (Nat.le_refl _)))
 obtain ⟨i0, hi0, hz0, hz1, hz2⟩ := info_parts Tryz.info_when
 have hL0 := hid (World.ownsRow_lit (base := w.heap.size) (e := 55) (size := 4) w #[] 0 (Nat.le_refl _) (by unfold maxLen; omega) (by rw [Nat.zero_mul]; rfl))
 have hb0 := below_alloc w (.cells #[] 55)
 have q1 : 0 + l.length ≤ maxLen := by unfold maxLen; omega
 have q2 : (0 + l.length) * 24 ≤ 140737488355328 := by omega
 clear h
 go_enter Tryz.func67, Tryz.ntmps67
 go_wp2_with (at_builtin; refine wpList_append_srcN rfl _ _ 50 50 rfl w.heap.size 55 i0 (.agg #[.int .u32 0, .int .u8 0, .int .i64 0, .int .i64 0]) 4 24 Tryz.underlying50 hi0 hz0 hz1 hz2 rfl _ _ _ rfl hL0.out _ _ _ rfl (hS.out _ hb0) q1 q2 hb0.size ?_; intro v1 w5 hown hgrow)
 go_ret
 refine ⟨v1, rfl, ?_, hb0.grown hgrow hb0.size (fun k hk => (hL0.out.lt k hk).1)⟩
 rw [Nat.zero_add] at hown
 exact hown
theorem r17_intsE (y : ItA) (hm : y.l.length * 8 ≤ 140737488355328) (w : World) (h : Its w w.heap.size y.a y.l) :
    Calls Tryz.prog 68 #[.slice y.a y.l.length y.c] w (ElRet (fun y => .slice y.a y.l.length y.c) (fun x z => z.l = x.l) ItE y w) := by
 refine (r17_ints y.a y.c y.l hm w h).mono ?_
 rintro e w' h
 obtain ⟨A, n, d, rfl, ⟨rfl, ho⟩, hb⟩ := h.cp
 exact ⟨⟨y.l, A, d⟩, rfl, rfl, ho, hb⟩
set_option maxRecDepth 20000 in
set_option maxHeartbeats 4000000 in
theorem r17_tableE (A : Option Addr) (c : Nat) (l : List ItA) (hm : l.length * 24 ≤ 140737488355328) (hl : ∀ y ∈ l, y.l.length * 8 ≤ 140737488355328) (w : World) (h : Es enI w w.heap.size A l) (hI : ∀ y ∈ l, Its w w.heap.size y.a y.l) :
    Calls Tryz.prog 66 #[.slice A l.length c] w (EaRet enI 43 1 (fun x z => z.l = x.l) ItE l w) := by
 have H := hid (fun y (hy : y ∈ l) X (hX : Below w.heap.size w X) => r17_intsE y (hl y hy) X (((hI y hy).below hX (Nat.le_refl _)).more hX.size))
 have S := hid (OwE_ok (T := 3) (K := 1) (T2 := 43) (K2 := 1) (v := fun y : ItA => .slice y.a y.l.length y.c) (n := fun y => y.l.length) (xs := fun y => y.l.map (Value.int .i64)) (by decide))
 have HE := hid h
 clear h hI hl
 obtain ⟨i0, hi0, hz0, hz1, hz2⟩ := info_parts Tryz.inf17_ints
 go_enter Tryz.func66, Tryz.ntmps66
 go_wp2_with fail
 go_loopw [3, 4] (fun v iv wr => ∃ (k : Nat) (l' : List ItA), iv = .int .i64 ((k : Nat) : Int) ∧ k ≤ l.length ∧ Hid (wr.ownsRow w.heap.size 43 1 v k (ecells enI l')) ∧ Hid (l'.length = k) ∧ Hid (∀ (j : Nat) (y y' : ItA), l[j]? = some y → l'[j]? = some y' → y'.l = y.l) ∧ Hid (∀ y' ∈ l', ItE w.heap.size y' wr) ∧ Hid (Below w.heap.size w wr)) (fun _ i _ => l.length - (intOf i).toNat)
 case atStart => exact ⟨0, [], rfl, Nat.zero_le _, own_none _ _ _ _, rfl, fun j y y' _ h => by simp at h, fun y' h => (by cases h), Below.refl _ _⟩
 case round =>
  obtain ⟨k, l', rfl, hk, HO, HL, HR, HA, HB⟩ := hrel
  by_cases hlt : k < l.length
  · obtain ⟨ad, y, rfl, hadb, hy, hyl, hcell⟩ := Es.get (K := 1) (fun _ => rfl) (by decide) (HE.out.below HB.out (Nat.le_refl _)) hlt
    have d0 := hcell 0 _ rfl
    rw [Nat.add_zero, Nat.mul_one] at d0
    have b1 : (0 : Int) ≤ (k : Int) := by omega
    have b2 : (k : Int) < l.length := by omega
    have HC := hid (H.out y hyl _ HB.out)
    clear hcell
    go_wp2_with fail
    refine HC.out.mono ?_
    rintro e w2 ⟨y', rfl, hr, he, b3⟩
    have hsz := HB.out.size
    have O2 := hid (own_below HO.out b3)
    have hB2 := HB.out.trans (b3.mono hsz)
    have hsz2 := hB2.size
    have HE2 := hid (show ∀ z ∈ l' ++ [y'], ItE w.heap.size z w2 from fun z hz => by
     rcases List.mem_append.1 hz with h1 | h1
     · exact S.out.keep _ _ _ _ (HA.out z h1) (Abv.of b3)
     · rw [List.mem_singleton] at h1
       subst h1
       exact S.out.low _ _ _ _ he hsz)
    have hn3 : k + 1 ≤ maxLen := by unfold maxLen; omega
    have hn4 : (k + 1) * 24 ≤ 140737488355328 := by omega
    have HR2 := hid (show ∀ (j : Nat) (z z' : ItA), l[j]? = some z → (l' ++ [y'])[j]? = some z' → z'.l = z.l from fun j z z' h1 h2 => by
     rcases Nat.lt_or_ge j k with h3 | h3
     · rw [List.getElem?_append_left (by rw [HL.out]; exact h3)] at h2
       exact HR.out j z z' h1 h2
     · have h4 := (List.getElem?_eq_some_iff.1 h2).1
       rw [List.length_append, HL.out] at h4
       have h5 : j = k := by simp only [List.length_singleton] at h4; omega
       subst h5
       rw [List.getElem?_append_right (by rw [HL.out]; omega), HL.out, Nat.sub_self] at h2
       have e1 := hy.out
       rw [h1] at e1
       injection e1 with e1
       injection h2 with h2
       rw [e1, ← h2]
       exact hr)
    clear d0 HC HO HR HA he b3 hr
    go_wp2_with (at_builtin; refine wpList_append_own _ rfl _ _ 25 rfl w.heap.size 43 i0 (.slice none 0 0) 1 24 Tryz.underlying25 hi0 hz0 hz1 hz2 rfl (by decide) _ _ _ rfl (O2.out.alloc _) ⟨_, 0, none⟩ 1 1 (enI y') rfl rfl (elit_get _ _ _) (one17_Ints _) hn3 hn4 (le_alloc hsz2 _) ?_; intro v1 w5 hown2 hgrow _)
    have ba := Below.alloc (Below.refl w2.heap.size w2) (Nat.le_refl _) (.cells (enI y').toArray 43)
    refine ⟨⟨k + 1, l' ++ [y'], by go_num, by omega, ?_, hid (by rw [List.length_append, HL.out]; rfl), HR2, hid (fun z hz => S.out.grow _ _ _ _ _ _ _ _ (S.out.keep _ _ _ _ (HE2.out z hz) (Abv.of ba)) (O2.out.alloc _) hgrow), hid ((hB2.trans (ba.mono hsz2)).grown hgrow (le_alloc hsz2 _) (fun k hk => (O2.out.lt k hk).1))⟩, by simp [intOf]; omega⟩
    rw [ecells_snoc]
    exact hid hown2
  · obtain rfl : k = l.length := by omega
    have b2 : ¬ (l.length : Int) < l.length := by omega
    go_wp2_with fail
    go_ret
    exact ⟨_, l', rfl, HO.out, HL.out, HR.out, HA.out, HB.out⟩
theorem r17_table (ls : List (List Int)) (A : Option Addr) (c : Nat) (hm : ls.length * 24 ≤ 140737488355328) (hl : ∀ l ∈ ls, l.length * 8 ≤ 140737488355328) (w : World) (h : Rows2 w w.heap.size A ls) :
    Calls Tryz.prog 66 #[.slice A ls.length c] w (CpRet (I2Q ls) w) := by
 obtain ⟨zs, rfl, hz, hE, hI⟩ := rows2_es h
 rw [← hz] at hm ⊢
 exact (r17_tableE A c zs hm (fun y hy => hl _ (List.mem_map.2 ⟨y, hy, rfl⟩)) w hE hI).mono fun _ _ h => h.row
end Go.Proofs.YtgmgccepmalahaaGreat
namespace Go.Proofs.YtgmgccepmalahaaGreat
open Go.RowKit
open Whn (Gr Wh)
def AbT (t : Nat) (b C : Nat) (X Y : World) : Prop := X.heap.size ≤ Y.heap.size ∧ ∀ j, b ≤ j → j < C → (∀ cur, X.heap[j]? ≠ some (.cells cur t (0, 0))) → Y.heap[j]? = X.heap[j]?
section
variable {t b C : Nat} {X Y Z : World}
theorem AbT.refl (t b C : Nat) (X : World) : AbT t b C X X := ⟨Nat.le_refl _, fun _ _ _ _ => rfl⟩
theorem AbT.trans (h : AbT t b C X Y) (h' : AbT t b C Y Z) : AbT t b C X Z := ⟨Nat.le_trans h.1 h'.1, fun j hb hC hn => by
 have e := h.2 j hb hC hn
 rw [h'.2 j hb hC (by rw [e]; exact hn), e]⟩
theorem AbT.of (h : Below C X Y) : AbT t b C X Y := ⟨h.size, fun j _ hC _ => h.block j hC⟩
theorem AbT.set (X : World) {Q : Nat} {cs : List Value} (h : Ob X Q cs t) (k : Nat) (v : Value) : AbT t b C X (X.setCell ⟨Q, k, none⟩ v) := ⟨by simp [World.setCell], fun j _ _ hn => by
 have hne : Q ≠ j := fun e => by subst e; exact hn _ h
 simp [World.setCell, Array.getElem?_modify, hne]⟩
theorem AbT.less (h : AbT t b C X Y) {C' : Nat} (hC : C' ≤ C) : AbT t b C' X Y := ⟨h.1, fun j hb hj hn => h.2 j hb (by omega) hn⟩
theorem AbT.up (h : AbT t b C X Y) {b' : Nat} (hb : b ≤ b') : AbT t b' C X Y := ⟨h.1, fun j hj hC hn => h.2 j (by omega) hC hn⟩
theorem own_abt {e size n : Nat} {v : Value} {xs : List Value} (h : X.ownsRow b e size v n xs) (ha : AbT t b X.heap.size X Y) (hne : e ≠ t) : Y.ownsRow b e size v n xs :=
 own_keep17 h fun k hk => by
  rcases h.2 with ⟨rfl, _⟩ | ⟨g, cap, cur, rfl, hb, hg, _⟩
  · cases hk
  · injection hk with hk
    subst hk
    refine ha.2 _ hb (Array.getElem?_eq_some_iff.1 hg).1 (fun c2 h2 => hne ?_)
    rw [hg] at h2
    injection h2 with h2
    injection h2
def ElT {α : Type} (E : ElQ α) (t : Nat) : Prop := ∀ b y X Y, E b y X → AbT t b X.heap.size X Y → E b y Y
theorem OwE_t {α : Type} {T K : Nat} {v : α → Value} {n : α → Nat} {xs : α → List Value} (hT : T ≠ t) : ElT (OwE T K v n xs) t := fun _ _ _ _ h ha => own_abt h ha hT
theorem ClE_t (h0 : 3 ≠ t) (h1 : 122 ≠ t) (h2 : 124 ≠ t) : ElT ClE t := fun _ _ _ _ h ha => ⟨own_abt h.1 ha h0, own_abt h.2.1 ha h1, own_abt h.2.2 ha h2⟩
theorem RowQ.abt {α β : Type} {en : α → List Value} {T K : Nat} {f : α → β} {E : ElQ α} (hT : T ≠ t) (hE : ElT E t) {ds : List β} {A : Option Addr} {n c : Nat} (h : RowQ en T K f E ds b A n c X) (ha : AbT t b X.heap.size X Y) : RowQ en T K f E ds b A n c Y := by
 obtain ⟨zs, h1, h2, h3, h4⟩ := h
 exact ⟨zs, h1, h2, own_abt h3 ha hT, fun z hz => hE _ _ _ _ (h4 z hz) ha⟩
theorem WyE_t (h0 : 3 ≠ t) (h1 : 43 ≠ t) : ElT WyE t := fun _ _ _ _ h ha => RowQ.abt h1 (OwE_t h0) h ha
theorem CsE_t (h0 : 3 ≠ t) (h1 : 43 ≠ t) (h2 : 67 ≠ t) : ElT CsE t := fun _ _ _ _ h ha => RowQ.abt h2 (WyE_t h0 h1) h ha
theorem Mem.grown17 {w X Y : World} {l : Obs} (h : Mem w X l) {D : Nat} (hb : Below D X Y) (hw : w.heap.size ≤ D) (hl : ∀ p ∈ l, p.1 < D) : Mem w Y l :=
 ⟨fun p hp => (h.1 p hp).below hb (hl p hp), h.2.trans (hb.mono hw)⟩
theorem RowQ.grown {α β : Type} {en : α → List Value} {T K : Nat} {f : α → β} {E : ElQ α} (S : ElOk E T K) {ds : List β} {zs : List α} {y : α} {A : Option Addr} {k c : Nat} {v1 : Value} (O : X.ownsRow b T K (.slice A k c) k (ecells en zs)) (hm : zs.map f = ds) (hl : zs.length = k)
    (hE : ∀ z ∈ zs, E b z X) (hy : E b y X) (ho : Y.ownsRow b T K v1 (k + 1) (ecells en zs ++ en y)) (hg : X.grownBy Y (Value.slice A k c).ownBlock) : ∃ A' c', v1 = .slice A' (k + 1) c' ∧ RowQ en T K f E (ds ++ [f y]) b A' (k + 1) c' Y := by
 have hv : ∃ A' c', v1 = .slice A' (k + 1) c' := by
  rcases ho.2 with ⟨_, h0⟩ | ⟨g, cap, cur, rfl, _⟩
  · cases h0
  · exact ⟨_, _, rfl⟩
 obtain ⟨A', c', rfl⟩ := hv
 refine ⟨A', c', rfl, zs ++ [y], by rw [List.map_append, hm]; rfl, by rw [List.length_append, hl]; rfl, by rw [ecells_snoc]; exact ho, fun z hz => ?_⟩
 rcases List.mem_append.1 hz with h1 | h1
 · exact S.grow _ _ _ _ _ _ _ _ (hE z h1) O hg
 · rw [List.mem_singleton] at h1
   subst h1
   exact S.grow _ _ _ _ _ _ _ _ hy O hg
theorem take_map17 {α β : Type} (f : α → β) {l : List α} {i : Nat} {y : α} (h : l[i]? = some y) : ((l.take (i + 1)).map f) = (l.take i).map f ++ [f y] := by
 rw [List.take_add_one, h]; simp
end
end Go.Proofs.YtgmgccepmalahaaGreat
namespace Go.Proofs.YtgmgccepmalahaaGreat
open Go.RowKit
open Whn (Gr Wh)
theorem gr_neq17 (a b : Gr) (w : World) : (binOp .neq 23 (gv a) (gv b)).run Tryz.prog w = .ok (.bool (!(grE a b))) w := by
 go_simp
 unfold grE
 by_cases h1 : a.w = b.w
 · by_cases h2 : a.d = b.d
   · by_cases h3 : a.s = b.s
     · simp [h1, h2, h3]
     · simp [h1, h2, h3]
   · simp [h1, h2]
 · simp [h1]
theorem wg_neq17 (a0 a1 a2 a3 b0 b1 b2 b3 : Int) (w : World) : (binOp .neq 32 (wgv a0 a1 a2 a3) (wgv b0 b1 b2 b3)).run Tryz.prog w = .ok (.bool (!(wgE a0 a1 a2 a3 b0 b1 b2 b3))) w := by
 go_simp
 unfold wgE
 by_cases h1 : a0 = b0
 · by_cases h2 : a1 = b1
   · by_cases h3 : a2 = b2
     · by_cases h4 : a3 = b3
       · simp [h1, h2, h3, h4]
       · simp [h1, h2, h3, h4]
     · simp [h1, h2, h3]
   · simp [h1, h2]
 · simp [h1]
theorem grE_iff (a b : Gr) : grE a b = true ↔ a = b := by
 unfold grE
 cases a; cases b
 simp
theorem wgE_iff (a0 a1 a2 a3 b0 b1 b2 b3 : Int) : wgE a0 a1 a2 a3 b0 b1 b2 b3 = true ↔ a0 = b0 ∧ a1 = b1 ∧ a2 = b2 ∧ a3 = b3 := by
 unfold wgE
 simp
theorem take_step17 {α β : Type} (f : α → β) {l m : List α} {i : Nat} {y z : α} (hy : l[i]? = some y) (hz : m[i]? = some z) : (l.take (i + 1)).map f = (m.take (i + 1)).map f ↔ ((l.take i).map f = (m.take i).map f ∧ f y = f z) := by
 rw [take_map17 f hy, take_map17 f hz]
 have h1 : ((l.take i).map f).length = ((m.take i).map f).length := by
  have e1 := (List.getElem?_eq_some_iff.1 hy).1
  have e2 := (List.getElem?_eq_some_iff.1 hz).1
  rw [List.length_map, List.length_map, List.length_take, List.length_take]
  omega
 constructor
 · intro h
   have h2 := List.append_inj h h1
   exact ⟨h2.1, by have := h2.2; injection this⟩
 · rintro ⟨h2, h3⟩
   rw [h2, h3]
theorem pb_same17 (x y : PbA) : x.p = y.p ↔ x.n = y.n ∧ x.g = y.g ∧ (x.w0 = y.w0 ∧ x.w1 = y.w1 ∧ x.w2 = y.w2 ∧ x.w3 = y.w3) ∧ x.wk = y.wk ∧ x.rm.map (·.r) = y.rm.map (·.r) ∧ x.ps.map (·.r) = y.ps.map (·.r) ∧ x.cl.map (·.x) = y.cl.map (·.x) ∧ x.cs.map (·.x) = y.cs.map (·.x) ∧ x.st.map (·.x) = y.st.map (·.x) ∧ x.rl.map (·.x) = y.rl.map (·.x) := by
 unfold PbA.p
 constructor
 · intro h
   injection h with h0 h1 h2 h3 h4 h5 h6 h7 h8 h9 h10 h11 h12
   exact ⟨h0, h1, ⟨h9, h10, h11, h12⟩, h3, h2, h4, h5, h6, h7, h8⟩
 · rintro ⟨h0, h1, ⟨h9, h10, h11, h12⟩, h3, h2, h4, h5, h6, h7, h8⟩
   rw [h0, h1, h2, h3, h4, h5, h6, h7, h8, h9, h10, h11, h12]
theorem len_of_map17 {α β : Type} {f : α → β} {l m : List α} (h : l.map f = m.map f) : l.length = m.length := by
 have := congrArg List.length h
 rwa [List.length_map, List.length_map] at this
end Go.Proofs.YtgmgccepmalahaaGreat
namespace Go.Proofs.YtgmgccepmalahaaGreat
open Go.RowKit
open Whn (Gr Wh)
set_option maxHeartbeats 1000000 in
theorem p_Same17 (x y : PbA) (w : World) (h1 : PbIn w x) (h2 : PbIn w y) : Calls Tryz.prog 19 #[pbv x, pbv y] w (CtRet (x.p = y.p) w) := by
 refine (p_SameG x y w (@decide _ (Classical.propDecidable (x.rm.map (·.r) = y.rm.map (·.r)))) (decide (x.wk = y.wk)) (@decide _ (Classical.propDecidable (x.ps.map (·.r) = y.ps.map (·.r)))) (@decide _ (Classical.propDecidable (x.cl.map (·.x) = y.cl.map (·.x)))) (@decide _ (Classical.propDecidable (x.cs.map (·.x) = y.cs.map (·.x)))) (@decide _ (Classical.propDecidable (x.st.map (·.x) = y.st.map (·.x)))) (@decide _ (Classical.propDecidable (x.rl.map (·.x) = y.rl.map (·.x))))
  (fun X hX => (eq_R x.r0 y.r0 x.c0 y.c0 x.rm y.rm (by have := h1.rmC; omega) X (Es.next h1.rm hX) (Es.next h2.rm hX) (fun z hz => (h1.rmI z hz).next hX) (fun z hz => (h2.rmI z hz).next hX)).mono fun _ _ h => CtRet.d17 (d := Classical.propDecidable _) h)
  (fun X hX => eq_W x.r1 y.r1 x.c1 y.c1 x.wk y.wk ⟨by have := h1.wkC; omega, h1.wkI⟩ X (Rows2.next h1.wk hX) (Rows2.next h2.wk hX))
  (fun X hX => (eq_P x.r2 y.r2 x.c2 y.c2 x.ps y.ps (by have := h1.psC; omega) X (Es.next h1.ps hX) (Es.next h2.ps hX) (fun z hz => (h1.psI z hz).next hX) (fun z hz => (h2.psI z hz).next hX)).mono fun _ _ h => CtRet.d17 (d := Classical.propDecidable _) h)
  (fun X hX => (eq_C x.r3 y.r3 x.c3 y.c3 x.cl y.cl (by have := h1.clC; omega) X (Es.next h1.cl hX) (Es.next h2.cl hX) (fun z hz => (h1.clI z hz).next hX) (fun z hz => (h2.clI z hz).next hX)).mono fun _ _ h => CtRet.d17 (d := Classical.propDecidable _) h)
  (fun X hX => (eq_K x.r4 y.r4 x.c4 y.c4 x.cs y.cs (by have := h1.csC; omega) X (Es.next h1.cs hX) (Es.next h2.cs hX) (fun z hz => (h1.csI z hz).next hX) (fun z hz => (h2.csI z hz).next hX)).mono fun _ _ h => CtRet.d17 (d := Classical.propDecidable _) h)
  (fun X hX => (eq_S x.r5 y.r5 x.c5 y.c5 x.st y.st (by have := h1.stC; omega) X (Es.next h1.st hX) (Es.next h2.st hX) (fun z hz => (h1.stI z hz).next hX) (fun z hz => (h2.stI z hz).next hX)).mono fun _ _ h => CtRet.d17 (d := Classical.propDecidable _) h)
  (fun X hX => (eq_U x.r6 y.r6 x.c6 y.c6 x.rl y.rl (by have := h1.rlC; omega) X (Es.next h1.rl hX) (Es.next h2.rl hX) (fun z hz => (h1.rlI z hz).next hX) (fun z hz => (h2.rlI z hz).next hX)).mono fun _ _ h => CtRet.d17 (d := Classical.propDecidable _) h)).mono ?_
 rintro e w' ⟨rfl, hb⟩
 refine ⟨_, rfl, ?_, hb⟩
 rw [pb_same17 x y]
 simp only [Bool.and_eq_true, decide_eq_true_iff, grE_iff, wgE_iff]
 exact ⟨fun ⟨a, b, c, e, f, g⟩ => ⟨a, b, c, f, e, g⟩, fun ⟨a, b, c, e, f, g⟩ => ⟨a, b, c, f, e, g⟩⟩
end Go.Proofs.YtgmgccepmalahaaGreat
namespace Go.Proofs.YtgmgccepmalahaaGreat
open Go.RowKit
open Whn (Gr Wh)
abbrev T17 : List Nat := [55, 52, 3, 122, 124]
def KpT (T : List Nat) (w w' : World) : Prop := ∀ (D t : Nat) (cs : List Value), t ∉ T → Ob w D cs t → Ob w' D cs t
theorem Spl.kp {T : List Nat} {b : Nat} {X Y w : World} {e K n c : Nat} {ad : Addr} {xs : List Value} (h : Spl T b X Y) (ho : X.ownsRow b e K (.slice (some ad) n c) n xs) (hT : e ∈ T) (k : Nat) (u : Value) (hk : KpT T w Y) : KpT T w (Y.setCell (ad.add k) u) := fun D t cs ht hD => by
 obtain ⟨g, cur, rfl, hb, hg, _⟩ := own_block17 ho
 obtain ⟨c2, h1, _⟩ := h.row g cur e hb hg
 rw [add_zero17]
 have h2 := hk D t cs ht hD
 refine h2.other (fun e2 => ?_) u
 have e3 : g = D := e2
 subst e3
 unfold Ob at h2
 rw [h1] at h2
 injection h2 with h2
 injection h2 with _ h3
 subst h3
 exact ht hT
def SpRet (b : Nat) (X w : World) (e : Ending) (w' : World) : Prop := e = .returned (.tuple #[]) ∧ Spl T17 b X w' ∧ KpT T17 w w'
theorem own_some17 {w : World} {b T K n c : Nat} {A : Option Addr} {xs : List Value} (h : w.ownsRow b T K (.slice A n c) n xs) (hn : 0 < n) : ∃ ad, A = some ad := by
 rcases h.2 with ⟨_, h0⟩ | ⟨g, cap, cur, e, _⟩
 · omega
 · injection e with e
   exact ⟨_, e⟩
theorem add_fld17 (ad : Addr) (k j : Nat) (hj : 0 < j) : ad.add (k + j) = ⟨(ad.add k).block, (ad.add k).off + j, none⟩ := by
 unfold Addr.add
 rw [if_neg (by omega)]
 by_cases h2 : k = 0
 · rw [if_pos h2, h2, Nat.zero_add]
 · rw [if_neg h2]
   show (⟨ad.block, ad.off + (k + j), none⟩ : Addr) = ⟨ad.block, ad.off + k + j, none⟩
   rw [Nat.add_assoc]
set_option maxRecDepth 20000 in
set_option maxHeartbeats 4000000 in
theorem p_turn (b : Nat) (X : World) (l : List Int) (A : Option Addr) (c : Nat) (hl : l.length ≤ maxLen) (ho : X.ownsRow b 3 1 (.slice A l.length c) l.length (l.map (Value.int .i64))) (w : World) (h : Spl T17 b X w) :
    Calls Tryz.prog 22 #[.slice A l.length c] w (SpRet b X w) := by
 have HO := hid ho
 have HS0 := hid h
 clear ho h
 unfold maxLen at hl
 go_enter Tryz.func22, Tryz.ntmps22
 go_wp2_with fail
 go_loopw [2] (fun iv wr => ∃ k : Nat, iv = .int .i64 ((k : Nat) : Int) ∧ k ≤ l.length ∧ Hid (Spl T17 b X wr) ∧ Hid (KpT T17 w wr)) (fun iv _ => l.length - (intOf iv).toNat)
 case atStart => exact ⟨0, rfl, Nat.zero_le _, HS0, fun _ _ _ _ h => h⟩
 case round =>
  clear HS0
  obtain ⟨k, rfl, hk, HS, HK⟩ := hrel
  by_cases hlt : k < l.length
  · obtain ⟨ad, rfl⟩ := own_some17 HO.out (by omega)
    have b1 : (0 : Int) ≤ (k : Int) := by omega
    have b2 : (k : Int) < l.length := by omega
    have hc : (l.map (Value.int .i64))[k]? = some (.int .i64 (l[k]'hlt)) := by rw [List.getElem?_map, List.getElem?_eq_getElem hlt]; rfl
    obtain ⟨u, hu⟩ := HS.out.has HO.out hc
    have hf := HS.out.free HO.out k
    obtain ⟨U, hU⟩ : ∃ U, wr.setCell (ad.add k) (.int .i64 (-7)) = U := ⟨_, rfl⟩
    have HU := hid (show Spl T17 b X U from hU ▸ HS.out.put HO.out (by decide) hc (fun _ _ _ e => by cases e) _)
    have HKU := hid (show KpT T17 w U from hU ▸ HS.out.kp HO.out (by decide) k _ HK.out)
    clear hc HS HK
    go_wp2_with fail
    exact ⟨⟨k + 1, by go_num, by omega, HU, HKU⟩, by simp [intOf]; omega⟩
  · obtain rfl : k = l.length := by omega
    have b2 : ¬ (l.length : Int) < l.length := by omega
    go_wp2_with fail
    exact bodyPost_ret (v := .tuple #[]) (by simp [results, Tryz.results22, go_sem]) rfl ⟨rfl, HS.out, HK.out⟩
set_option maxRecDepth 20000 in
set_option maxHeartbeats 4000000 in
theorem p_spoil (b : Nat) (X : World) (y : ClA) (hl : y.x.p.length ≤ maxLen ∧ y.x.t.length ≤ maxLen ∧ y.x.l.length ≤ maxLen) (ho : ClE b y X) (w : World) (h : Spl T17 b X w) :
    Calls Tryz.prog 21 #[cvA y] w (SpRet b X w) := by
 obtain ⟨o1, o2, o3⟩ := ho
 have O1 := hid o1
 have O2 := hid o2
 have O3 := hid o3
 obtain ⟨l1, l2, l3⟩ := hl
 unfold maxLen at l2 l3
 obtain ⟨R, W, hR, hW, K, hb0⟩ := (Mem.nil w).one (enC y) 62
 have HS1 := hid (h.next hb0)
 have hOb := K.out.at_ (b := R) (cs := enC y) (t := 62) (by simp)
 have HOb := hid hOb
 have HK1 := hid (show KpT T17 w W from fun D t cs _ hD => hD.next hb0)
 have c3 := hOb.cell (k := 3) rfl
 clear o1 o2 o3 h K hb0 hOb
 go_enter Tryz.func21, Tryz.ntmps21
 go_wp2_with fail
 refine (p_turn b X y.x.p y.r.a y.r.ac l1 O1.out W HS1.out).mono ?_
 rintro e Y ⟨rfl, hs, hk⟩
 have HS2 := hid hs
 have HK2 := hid (show KpT T17 w Y from fun D t cs ht hD => hk D t cs ht (HK1.out D t cs ht hD))
 have HOb2 := hid (hk _ _ _ (by decide) HOb.out)
 clear hs hk HS1 HK1 HOb c3 hW
 go_wp2_with fail
 go_loopw [2] (fun iv wr => ∃ k : Nat, iv = .int .i64 ((k : Nat) : Int) ∧ k ≤ y.x.t.length ∧ Hid (Spl T17 b X wr) ∧ Hid (KpT T17 w wr) ∧ Hid (Ob wr R (enC y) 62)) (fun iv _ => y.x.t.length - (intOf iv).toNat)
 case atStart => exact ⟨0, rfl, Nat.zero_le _, HS2, HK2, HOb2⟩
 case round =>
  clear HS2 HK2 HOb2
  obtain ⟨k, rfl, hk, HS, HK, HOb⟩ := hrel
  have c4 := HOb.out.cell (k := 4) rfl
  by_cases hlt : k < y.x.t.length
  · obtain ⟨ad, ea⟩ := own_some17 O2.out (by omega)
    have b1 : (0 : Int) ≤ (k : Int) := by omega
    have b2 : (k : Int) < y.x.t.length := by omega
    have O := O2.out
    rw [ea] at O c4
    have hc : (ecells enT y.x.t)[k * 5 + 4]? = some (.int .i64 (y.x.t[k]'hlt).c) := (ecells_get (K := 5) (fun _ => rfl) y.x.t k _ (List.getElem?_eq_getElem hlt) 4 (by decide)).trans rfl
    obtain ⟨u, hu⟩ := HS.out.has O hc
    have hf := HS.out.free O (k * 5 + 4)
    obtain ⟨U, hU⟩ : ∃ U, wr.setCell (ad.add (k * 5 + 4)) (.int .i64 (-7)) = U := ⟨_, rfl⟩
    have HU := hid (show Spl T17 b X U from hU ▸ HS.out.put O (by decide) hc (fun _ _ _ e => by cases e) _)
    have HKU := hid (show KpT T17 w U from hU ▸ HS.out.kp O (by decide) _ _ HK.out)
    have HOU := hid (show Ob U R (enC y) 62 from hU ▸ HS.out.kp (w := wr) O (by decide) _ _ (fun _ _ _ _ h => h) _ _ _ (by decide) HOb.out)
    rw [add_fld17 _ _ _ (by decide)] at hu hf hU
    clear hc HS HK HOb O ea
    go_wp2_with fail
    exact ⟨⟨k + 1, by go_num, by omega, HU, HKU, HOU⟩, by simp [intOf]; omega⟩
  · obtain rfl : k = y.x.t.length := by omega
    have b2 : ¬ (y.x.t.length : Int) < y.x.t.length := by omega
    go_wp2_with fail
    clear c4 hlt hk b2
    go_loopw [3] (fun iv wr => ∃ k : Nat, iv = .int .i64 ((k : Nat) : Int) ∧ k ≤ y.x.l.length ∧ Hid (Spl T17 b X wr) ∧ Hid (KpT T17 w wr) ∧ Hid (Ob wr R (enC y) 62)) (fun iv _ => y.x.l.length - (intOf iv).toNat)
    case atStart => exact ⟨0, rfl, Nat.zero_le _, HS, HK, HOb⟩
    case round =>
     clear HS HK HOb
     obtain ⟨k, rfl, hk, HS, HK, HOb⟩ := hrel
     have c5 := HOb.out.cell (k := 5) rfl
     by_cases hlt : k < y.x.l.length
     · obtain ⟨ad, ea⟩ := own_some17 O3.out (by omega)
       have b1 : (0 : Int) ≤ (k : Int) := by omega
       have b2 : (k : Int) < y.x.l.length := by omega
       have O := O3.out
       rw [ea] at O c5
       have hc : (ecells enP y.x.l)[k * 2 + 1]? = some (.int .i64 (y.x.l[k]'hlt).c) := (ecells_get (K := 2) (fun _ => rfl) y.x.l k _ (List.getElem?_eq_getElem hlt) 1 (by decide)).trans rfl
       obtain ⟨u, hu⟩ := HS.out.has O hc
       have hf := HS.out.free O (k * 2 + 1)
       obtain ⟨U, hU⟩ : ∃ U, wr.setCell (ad.add (k * 2 + 1)) (.int .i64 (-7)) = U := ⟨_, rfl⟩
       have HU := hid (show Spl T17 b X U from hU ▸ HS.out.put O (by decide) hc (fun _ _ _ e => by cases e) _)
       have HKU := hid (show KpT T17 w U from hU ▸ HS.out.kp O (by decide) _ _ HK.out)
       have HOU := hid (show Ob U R (enC y) 62 from hU ▸ HS.out.kp (w := wr) O (by decide) _ _ (fun _ _ _ _ h => h) _ _ _ (by decide) HOb.out)
       rw [add_fld17 _ _ _ (by decide)] at hu hf hU
       clear hc HS HK HOb O ea
       go_wp2_with fail
       exact ⟨⟨k + 1, by go_num, by omega, HU, HKU, HOU⟩, by simp [intOf]; omega⟩
     · obtain rfl : k = y.x.l.length := by omega
       have b2 : ¬ (y.x.l.length : Int) < y.x.l.length := by omega
       go_wp2_with fail
       exact bodyPost_ret (v := .tuple #[]) (by simp [results, Tryz.results21, go_sem]) rfl ⟨rfl, HS.out, HK.out⟩
end Go.Proofs.YtgmgccepmalahaaGreat
