/- What the proof of ProblemCopies stands on, part 19. -/
import Derived.SizedLaws
import Derived.Test.YtgmgccepmalahaaGreatCpAD
import Derived.Test.YtgmgccepmalahaaGreatCpAR
namespace Go.Proofs.YtgmgccepmalahaaGreat
open Go.RowKit Go.ChangeShapes Go.WideShapes
open Whn (Gr Wh)
section
variable {H : Type} {enc : TypeId × Value → H} {P : Program} {w : World} {base : Nat} {sp : Nat → Bool} {held : Bool} {R : Nat}
def Wtd (enc : TypeId × Value → H) (P : Program) (w : World) (base : Nat) (sp : Nat → Bool) (held : Bool) (R : Nat) (t : TypeId) (cs : List Value) : Prop :=
 ∃ n y, DataW.trod enc P w base sp held n t cs = some y ∧ ∀ k ∈ y.1.weights P t, k ≤ R
theorem weightsAll_mem17 {e : TypeId} {d : DataW H} {n : Nat} (hn : n ∈ d.weights P e) : ∀ {ds : List (DataW H)}, d ∈ ds → n ∈ DataW.weightsAll P e ds
 | x :: r, h => by
  simp only [DataW.weightsAll, List.mem_append]
  rcases List.mem_cons.1 h with rfl | h
  · exact .inl hn
  · exact .inr (weightsAll_mem17 hn h)
theorem Wtd.text {t : TypeId} {s : ByteArray} (ht : P.underlying t = some .string) (h : Wtd enc P w base sp held R t [.string s]) : s.size ≤ R := by
 obtain ⟨n, y, hy, hk⟩ := h
 obtain ⟨s', e, x, _⟩ := DataW.trod_string ht hy
 simp only [List.cons.injEq, Value.string.injEq, and_true] at e
 subst e
 rw [← data_len]
 refine hk _ ?_
 rw [x]
 simp [DataW.weights]
theorem Wtd.row {t e : TypeId} {K bytes : Nat} {A : Option Addr} {len c : Nat} (ht : P.underlying t = some (.slice e)) (hC : P.cellsOf e = K) (hB : P.bytesOf e = bytes) (h : Wtd enc P w base sp held R t [.slice A len c]) :
    len * bytes ≤ R ∧ ∀ i, i < len → ∃ ad cs, A = some ad ∧ cs.length = K ∧ (∀ j, j < K → w.cell? (ad.add (i * K + j)) = cs[j]?) ∧ Wtd enc P w base sp held R e cs := by
 obtain ⟨n, y, hy, hk⟩ := h
 rcases Go.Deep.open_slice ht hy with ⟨hcs, _⟩ | ⟨a, len', cap', m, n', D, Pl, hcs, _, hl, hm, hmm, hx, hi⟩
 · simp at hcs
   obtain ⟨rfl, rfl, rfl⟩ := hcs
   exact ⟨by omega, fun i hi => absurd hi (Nat.not_lt_zero i)⟩
 · simp at hcs
   obtain ⟨rfl, rfl, rfl⟩ := hcs
   have hlm : len ≤ m := by rw [hmm]; split <;> omega
   refine ⟨?_, fun i hil => ?_⟩
   · have h1 : (len + (m - len)) * P.bytesOf e ≤ R := hk _ (by
      rw [hx]
      simp only [DataW.weights, ht, List.mem_cons, List.length_map, List.length_range]
      exact .inl trivial)
     rw [hB] at h1
     exact Nat.le_trans (Nat.mul_le_mul_right _ (by omega)) h1
   · obtain ⟨cs', hc, htr⟩ := hi i (by omega)
     rw [hC] at hc
     obtain ⟨_, hcl, hat⟩ := World.cells?_some hc
     refine ⟨a, cs', rfl, hcl, fun j hj => ?_, n', (D i, Pl i), htr, fun k hk' => hk k ?_⟩
     · have := hat j hj
       rw [Addr.add_add] at this
       exact this
     · rw [hx]
       simp only [DataW.weights, ht, List.mem_cons, List.mem_append]
       exact .inr (.inl (weightsAll_mem17 hk' (List.mem_map.2 ⟨i, List.mem_range.2 hil, rfl⟩)))
theorem Wtd.field {t : TypeId} {fs : Array Field} {cs : List Value} (ht : P.underlying t = some (.struct fs)) (h : Wtd enc P w base sp held R t cs) (j : Nat) (f : Field) (hf : fs[j]? = some f) : Wtd enc P w base sp held R f.type ((cs.drop f.offset).take (P.cellsOf f.type)) := by
 obtain ⟨n, y, hy, hk⟩ := h
 obtain ⟨ys, n', _, hag, _, hyl, hg⟩ := DataW.trod_struct ht hy
 have hj : j < ys.length := by rw [hyl]; exact (Array.getElem?_eq_some_iff.1 hf).1
 have hyj : ys[j]? = some (ys[j]) := List.getElem?_eq_getElem hj
 refine ⟨n', ys[j], (hg j f hf).trans hyj, fun k hk' => hk k ?_⟩
 rw [hag]
 simp only [DataW.weights, ht]
 refine DataW.weights_mem_each (j := j) (t := f.type) (d := ys[j].1) ?_ ?_ _ hk'
 · rw [List.getElem?_map, show fs.toList[j]? = some f by simpa using hf]; rfl
 · rw [List.getElem?_map, hyj]; rfl
theorem Wtd.es {α : Type} {en : α → List Value} {t e : TypeId} {K bytes : Nat} {A : Option Addr} {c : Nat} {l : List α} (hK : ∀ x, (en x).length = K) (ht : P.underlying t = some (.slice e)) (hC : P.cellsOf e = K) (hB : P.bytesOf e = bytes) (h : Wtd enc P w base sp held R t [.slice A l.length c]) (hE : Es en w w.heap.size A l) :
    l.length * bytes ≤ R ∧ ∀ y ∈ l, Wtd enc P w base sp held R e (en y) := by
 obtain ⟨h1, h2⟩ := h.row ht hC hB
 refine ⟨h1, fun y hy => ?_⟩
 obtain ⟨i, hi⟩ := List.mem_iff_getElem?.1 hy
 obtain ⟨ad, cs, rfl, hcl, hat, hw⟩ := h2 i (List.getElem?_eq_some_iff.1 hi).1
 have : cs = en y := by
  refine List.ext_getElem? fun j => ?_
  rcases Nat.lt_or_ge j K with hj | hj
  · rw [← hat j hj]
    have hv : (en y)[j]? = some ((en y)[j]'(by rw [hK]; exact hj)) := List.getElem?_eq_getElem _
    rw [hv]
    exact es_at hK hE hi j _ hv
  · rw [List.getElem?_eq_none (by omega), List.getElem?_eq_none (by rw [hK]; exact hj)]
 rw [← this]
 exact hw
theorem Wtd.rows2 {t e : TypeId} {i : TypeId} {A : Option Addr} {c : Nat} {ls : List (List Int)} (ht : P.underlying t = some (.slice e)) (hC : P.cellsOf e = 1) (hB : P.bytesOf e = 24) (he : P.underlying e = some (.slice i)) (hC2 : P.cellsOf i = 1) (hB2 : P.bytesOf i = 8) (h : Wtd enc P w base sp held R t [.slice A ls.length c]) (hE : Rows2 w w.heap.size A ls) :
    ls.length * 24 ≤ R ∧ ∀ l ∈ ls, l.length * 8 ≤ R := by
 obtain ⟨h1, h2⟩ := h.row ht hC hB
 refine ⟨h1, fun l hl => ?_⟩
 obtain ⟨k, hk⟩ := List.mem_iff_getElem?.1 hl
 obtain ⟨ad, cs, rfl, hcl, hat, hw⟩ := h2 k (List.getElem?_eq_some_iff.1 hk).1
 obtain ⟨ad', e', _, hrow⟩ := hE (by intro e; rw [e] at hk; cases hk)
 injection e' with e'
 subst e'
 obtain ⟨Ak, ck, hc, _, _⟩ := hrow k l hk
 have hcs : cs = [.slice Ak l.length ck] := by
  have h0 := hat 0 (by omega)
  rw [Nat.mul_one, Nat.add_zero, hc] at h0
  match cs, hcl with
  | [v], _ => injection h0.symm with h0; rw [h0]
 rw [hcs] at hw
 exact (hw.row he hC2 hB2).1
theorem Wtd.rows3 {t e t2 e2 i : TypeId} {f : Field} {A : Option Addr} {c : Nat} {ws : List (List (List Int))} (ht : P.underlying t = some (.slice e)) (hC : P.cellsOf e = 1) (hB : P.bytesOf e = 24) (he : P.underlying e = some (.struct #[f])) (ho : f.offset = 0) (hfc : P.cellsOf f.type = 1) (hft : f.type = t2)
    (ht2 : P.underlying t2 = some (.slice e2)) (hC2 : P.cellsOf e2 = 1) (hB2 : P.bytesOf e2 = 24) (he2 : P.underlying e2 = some (.slice i)) (hC3 : P.cellsOf i = 1) (hB3 : P.bytesOf i = 8) (h : Wtd enc P w base sp held R t [.slice A ws.length c]) (hE : Rows3 w w.heap.size A ws) :
    ws.length * 24 ≤ R ∧ ∀ ls ∈ ws, ls.length * 24 ≤ R ∧ ∀ l ∈ ls, l.length * 8 ≤ R := by
 obtain ⟨h1, h2⟩ := h.row ht hC hB
 refine ⟨h1, fun ls hl => ?_⟩
 obtain ⟨k, hk⟩ := List.mem_iff_getElem?.1 hl
 obtain ⟨ad, cs, rfl, hcl, hat, hw⟩ := h2 k (List.getElem?_eq_some_iff.1 hk).1
 obtain ⟨ad', e', _, hrow⟩ := hE (by intro e; rw [e] at hk; cases hk)
 injection e' with e'
 subst e'
 obtain ⟨Ak, ck, hc, hr2, _⟩ := hrow k ls hk
 have hcs : cs = [.slice Ak ls.length ck] := by
  have h0 := hat 0 (by omega)
  rw [Nat.mul_one, Nat.add_zero, hc] at h0
  match cs, hcl with
  | [v], _ => injection h0.symm with h0; rw [h0]
 rw [hcs] at hw
 have hf := hw.field he 0 f rfl
 rw [ho, hfc, hft] at hf
 exact Wtd.rows2 ht2 hC2 hB2 he2 hC3 hB3 hf hr2
end
structure PbBig (x : PbA) : Prop where
 n : x.n.length ≤ reachBytes
 rm : ∀ y ∈ x.rm, y.r.n.length ≤ reachBytes ∧ y.r.l.length * 24 ≤ reachBytes
 wk : ∀ l ∈ x.wk, l.length * 8 ≤ reachBytes
 ps : ∀ y ∈ x.ps, y.r.n.length ≤ reachBytes ∧ y.r.l.length * 24 ≤ reachBytes
 cl : ∀ y ∈ x.cl, y.x.p.length * 8 ≤ reachBytes ∧ y.x.t.length * 32 ≤ reachBytes ∧ y.x.l.length * 16 ≤ reachBytes
 cs : ∀ y ∈ x.cs, y.x.ws.length * 24 ≤ reachBytes ∧ ∀ ls ∈ y.x.ws, ls.length * 24 ≤ reachBytes ∧ ∀ l ∈ ls, l.length * 8 ≤ reachBytes
 st : ∀ y ∈ x.st, y.x.l.length * 8 ≤ reachBytes
 rl : ∀ y ∈ x.rl, y.x.l.length * 8 ≤ reachBytes
section
variable {H : Type} {enc : TypeId × Value → H} {W : World} {base : Nat} {spare : Nat → Bool} {held : Bool} {d : DataW H} {p : List MemPlace}
set_option maxRecDepth 20000 in
set_option maxHeartbeats 4000000 in
theorem big_of {x : PbA} (hx : PbIn W x) (h : DataW.Trod enc Tryz.prog W base spare held 34 (pbv x) d p) (hz : ∀ k ∈ d.weights Tryz.prog 34, k ≤ reachBytes) : PbBig x := by
 have hW : Wtd enc Tryz.prog W base spare held reachBytes 34 (pbc x) := by
  obtain ⟨n, hn⟩ := h
  exact ⟨n, (d, p), hn, hz⟩
 have f0 := hW.field Tryz.underlying34 0 _ rfl
 have f2 := hW.field Tryz.underlying34 2 _ rfl
 have f3 := hW.field Tryz.underlying34 3 _ rfl
 have f4 := hW.field Tryz.underlying34 4 _ rfl
 have f5 := hW.field Tryz.underlying34 5 _ rfl
 have f6 := hW.field Tryz.underlying34 6 _ rfl
 have f7 := hW.field Tryz.underlying34 7 _ rfl
 have f8 := hW.field Tryz.underlying34 8 _ rfl
 have f0 : Wtd enc Tryz.prog W base spare held reachBytes _ [txt x.n] := f0
 have f2 : Wtd enc Tryz.prog W base spare held reachBytes _ [.slice x.r0 x.rm.length x.c0] := f2
 have f3 : Wtd enc Tryz.prog W base spare held reachBytes _ [.slice x.r1 x.wk.length x.c1] := f3
 have f4 : Wtd enc Tryz.prog W base spare held reachBytes _ [.slice x.r2 x.ps.length x.c2] := f4
 have f5 : Wtd enc Tryz.prog W base spare held reachBytes _ [.slice x.r3 x.cl.length x.c3] := f5
 have f6 : Wtd enc Tryz.prog W base spare held reachBytes _ [.slice x.r4 x.cs.length x.c4] := f6
 have f7 : Wtd enc Tryz.prog W base spare held reachBytes _ [.slice x.r5 x.st.length x.c5] := f7
 have f8 : Wtd enc Tryz.prog W base spare held reachBytes _ [.slice x.r6 x.rl.length x.c6] := f8
 have tx : ∀ l : List UInt8, Wtd enc Tryz.prog W base spare held reachBytes 9 [txt l] → l.length ≤ reachBytes := fun l h => by
  have := h.text Tryz.underlying9
  rwa [bs_size] at this
 constructor
 · exact tx _ f0
 · intro y hy
   have hw := (f2.es enR_len Tryz.underlying24 (by kernel_rfl) rfl hx.rm).2 y hy
   exact ⟨tx _ (hw.field Tryz.underlying52 0 _ rfl), (Wtd.row (K := 4) Tryz.underlying50 (by kernel_rfl) (by kernel_rfl) (show Wtd enc Tryz.prog W base spare held reachBytes 50 [.slice y.a y.r.l.length y.c] from hw.field Tryz.underlying52 3 _ rfl)).1⟩
 · exact (f3.rows2 Tryz.underlying25 (by kernel_rfl) (by kernel_rfl) Tryz.underlying43 (by kernel_rfl) (by kernel_rfl) hx.wk).2
 · intro y hy
   have hw := (f4.es enQ_len Tryz.underlying26 (by kernel_rfl) rfl hx.ps).2 y hy
   exact ⟨tx _ (hw.field Tryz.underlying57 0 _ rfl), (Wtd.row (K := 4) Tryz.underlying50 (by kernel_rfl) (by kernel_rfl) (show Wtd enc Tryz.prog W base spare held reachBytes 50 [.slice y.a y.r.l.length y.c] from hw.field Tryz.underlying57 1 _ rfl)).1⟩
 · intro y hy
   have hw := (f5.es enC_len Tryz.underlying27 (by kernel_rfl) rfl hx.cl).2 y hy
   exact ⟨(Wtd.row (K := 1) Tryz.underlying43 (by kernel_rfl) (by kernel_rfl) (show Wtd enc Tryz.prog W base spare held reachBytes 43 [.slice y.r.a y.x.p.length y.r.ac] from hw.field Tryz.underlying62 3 _ rfl)).1,
    (Wtd.row (K := 5) Tryz.underlying59 (by kernel_rfl) (by kernel_rfl) (show Wtd enc Tryz.prog W base spare held reachBytes 59 [.slice y.r.b y.x.t.length y.r.bc] from hw.field Tryz.underlying62 4 _ rfl)).1,
    (Wtd.row (K := 2) Tryz.underlying60 (by kernel_rfl) (by kernel_rfl) (show Wtd enc Tryz.prog W base spare held reachBytes 60 [.slice y.r.c y.x.l.length y.r.cc] from hw.field Tryz.underlying62 5 _ rfl)).1⟩
 · intro y hy
   have hw := (f6.es enK_len Tryz.underlying28 (by kernel_rfl) rfl hx.cs).2 y hy
   exact Wtd.rows3 Tryz.underlying63 (by kernel_rfl) (by kernel_rfl) Tryz.underlying67 rfl (by kernel_rfl) rfl Tryz.underlying25 (by kernel_rfl) (by kernel_rfl) Tryz.underlying43 (by kernel_rfl) (by kernel_rfl)
    (show Wtd enc Tryz.prog W base spare held reachBytes 63 [.slice y.a y.x.ws.length y.c] from hw.field Tryz.underlying65 1 _ rfl) (hx.csI y hy).2.1
 · intro y hy
   have hw := (f7.es enS_len Tryz.underlying29 (by kernel_rfl) rfl hx.st).2 y hy
   exact (Wtd.row (K := 1) Tryz.underlying43 (by kernel_rfl) (by kernel_rfl) (show Wtd enc Tryz.prog W base spare held reachBytes 43 [.slice y.a y.x.l.length y.c] from hw.field Tryz.underlying70 1 _ rfl)).1
 · intro y hy
   have hw := (f8.es enU_len Tryz.underlying30 (by kernel_rfl) rfl hx.rl).2 y hy
   exact (Wtd.row (K := 1) Tryz.underlying43 (by kernel_rfl) (by kernel_rfl) (show Wtd enc Tryz.prog W base spare held reachBytes 43 [.slice y.r y.x.l.length y.c] from hw.field Tryz.underlying45 1 _ rfl)).1
end
end Go.Proofs.YtgmgccepmalahaaGreat
namespace Go.Proofs.YtgmgccepmalahaaGreat
open Go.RowKit
open Whn (Gr Wh)
theorem run_eqlIn_slice_nil {P : Program} (w : World) (d : Nat) (t e : TypeId) (a : Option Addr) (l c : Nat) (h : P.underlying t = some (.slice e)) : (Op.equalIn (d + 1) t (.slice a l c) (.slice none 0 0)).run P w = .ok a.isNone w := by
 cases a <;> simp [Op.equalIn, run_underlying h]
theorem run_eq_slice_nil {P : Program} (w : World) (t e : TypeId) (a : Option Addr) (l c : Nat) (h : P.underlying t = some (.slice e)) : (binOp .eql t (.slice a l c) (.slice none 0 0)).run P w = .ok (.bool a.isNone) w := by
 have h1 : (Op.equal t (.slice a l c) (.slice none 0 0)).run P w = .ok a.isNone w := run_eqlIn_slice_nil w 9999 t e a l c h
 simp only [binOp]
 simp [h1]
theorem src_es17 {α : Type} {en : α → List Value} {K : Nat} (hK : ∀ x, (en x).length = K) (h0 : 0 < K) (h1 : ∀ x, ∀ u ∈ en x, u.oneCell' = true) {P : Program} (w : World) {e' tx : TypeId} (hk : P.underlying tx = some (.slice e')) {B : Nat} {A : Option Addr} {n c : Nat} {m : List α} (hn : m.length = n) (h : Es en w B A m) : Src P K tx (.slice A n c) n (ecells en m) w := by
 have hone : ∀ u ∈ ecells en m, u.oneCell' = true := fun u hu => by
  obtain ⟨x, _, hx⟩ := List.mem_flatMap.1 hu
  exact h1 x u hx
 by_cases hl : m = []
 · subst hl
   obtain rfl : n = 0 := hn.symm
   cases A with
   | none => exact Src.ofNil w hk c
   | some a => exact Src.ofSlice w hk a 0 c [] (by rw [Nat.zero_mul]; rfl) (fun j u hu => by cases hu) (fun u hu => by cases hu)
 · obtain ⟨ad, rfl, _, hc⟩ := h (ecells_ne hK h0 hl)
   exact Src.ofSlice w hk ad n c (ecells en m) (by rw [ecells_len hK, hn]) hc hone
def ClnRet (T K n : Nat) (xs : List Value) (w : World) (e : Ending) (w' : World) : Prop := ∃ v, e = .returned v ∧ w'.ownsRow w.heap.size T K v n xs ∧ Below w.heap.size w w'
theorem own_none (w : World) (b T K : Nat) : w.ownsRow b T K (.slice none 0 0) 0 [] := ⟨by rw [Nat.zero_mul]; rfl, .inl ⟨rfl, rfl⟩⟩
set_option maxRecDepth 20000 in
set_option maxHeartbeats 1000000 in
theorem p_CloneInts (A : Option Addr) (c : Nat) (l : List Int) (hm : l.length * 8 ≤ 140737488355328) (w : World) (h : Its w w.heap.size A l) :
    Calls Tryz.prog 72 #[.slice A l.length c] w (ClnRet 3 1 l.length (l.map (Value.int .i64)) w) := by
 have Heq := run_eq_slice_nil (P := Tryz.prog) w 43 3 A l.length c Tryz.underlying43
 cases A with
 | none =>
  have hl : l = [] := Classical.byContradiction fun hne => by
   obtain ⟨ad, e, _⟩ := h (by rw [ne_eq, List.map_eq_nil_iff]; exact hne)
   cases e
  subst hl
  clear h
  have Heq : (binOp .eql 43 (.slice none 0 c) (.slice none 0 0)).run Tryz.prog w = .ok (.bool true) w := Heq
  change Calls Tryz.prog 72 #[.slice none 0 c] w (ClnRet 3 1 0 [] w)
  go_enter Tryz.func72, Tryz.ntmps72
  go_wp2_with fail
  go_ret
  exact ⟨_, rfl, own_none _ _ _ _, Below.refl _ _⟩
 | some ad =>
  have hS := hid (fun X (hX : Below w.heap.size w X) => src_its (P := Tryz.prog) X Tryz.underlying43 (c := c) rfl (h.below hX (Nat.le_refl _)))
  obtain ⟨i0, hi0, hz0, hz1, hz2⟩ := info_parts Tryz.info_int14
  have hL0 := hid (World.ownsRow_lit (base := w.heap.size) (e := 3) (size := 1) w #[] 0 (Nat.le_refl _) (by unfold maxLen; omega) rfl)
  have hb0 := below_alloc w (.cells #[] 3)
  have q1 : 0 + l.length ≤ maxLen := by unfold maxLen; omega
  have q2 : (0 + l.length) * 8 ≤ 140737488355328 := by omega
  clear h
  go_enter Tryz.func72, Tryz.ntmps72
  go_wp2_with (at_builtin; refine wpList_append_srcN rfl _ _ 43 43 rfl w.heap.size 3 i0 (.int .i64 0) 1 8 Tryz.underlying43 hi0 hz0 hz1 hz2 rfl _ _ _ rfl hL0.out _ _ _ rfl (hS.out _ hb0) q1 q2 hb0.size ?_; intro v1 w5 hown hgrow)
  go_ret
  refine ⟨v1, rfl, ?_, hb0.grown hgrow hb0.size (fun k hk => (hL0.out.lt k hk).1)⟩
  rw [Nat.zero_add] at hown
  exact hown
theorem one_Whens (x : Wh) : ∀ u ∈ wc x, u.oneCell' = true := fun u hu => by
 simp only [wc, List.mem_cons, List.not_mem_nil, or_false] at hu
 rcases hu with rfl | rfl | rfl | rfl <;> rfl
set_option maxRecDepth 20000 in
set_option maxHeartbeats 1000000 in
theorem p_CloneWhens (A : Option Addr) (c : Nat) (l : List Wh) (hm : l.length * 24 ≤ 140737488355328) (w : World) (h : Es wc w w.heap.size A l) :
    Calls Tryz.prog 150 #[.slice A l.length c] w (ClnRet 55 4 l.length (ecells wc l) w) := by
 have Heq := run_eq_slice_nil (P := Tryz.prog) w 50 55 A l.length c Tryz.underlying50
 cases A with
 | none =>
  have hl : l = [] := Classical.byContradiction fun hne => by
   obtain ⟨ad, e, _⟩ := h (ecells_ne (K := 4) (fun _ => rfl) (by decide) hne)
   cases e
  subst hl
  clear h
  have Heq : (binOp .eql 50 (.slice none 0 c) (.slice none 0 0)).run Tryz.prog w = .ok (.bool true) w := Heq
  change Calls Tryz.prog 150 #[.slice none 0 c] w (ClnRet 55 4 0 [] w)
  go_enter Tryz.func150, Tryz.ntmps150
  go_wp2_with fail
  go_ret
  exact ⟨_, rfl, own_none _ _ _ _, Below.refl _ _⟩
 | some ad =>
  have hS := hid (fun X (hX : Below w.heap.size w X) => src_es17 (K := 4) (fun _ => rfl) (by decide) one_Whens (P := Tryz.prog) X Tryz.underlying50 (c := c) rfl (h.below hX (Nat.le_refl _)))
  obtain ⟨i0, hi0, hz0, hz1, hz2⟩ := info_parts Tryz.info_when
  have hL0 := hid (World.ownsRow_lit (base := w.heap.size) (e := 55) (size := 4) w #[] 0 (Nat.le_refl _) (by unfold maxLen; omega) rfl)
  have hb0 := below_alloc w (.cells #[] 55)
  have q1 : 0 + l.length ≤ maxLen := by unfold maxLen; omega
  have q2 : (0 + l.length) * 24 ≤ 140737488355328 := by omega
  clear h
  go_enter Tryz.func150, Tryz.ntmps150
  go_wp2_with (at_builtin; refine wpList_append_srcN rfl _ _ 50 50 rfl w.heap.size 55 i0 (.agg #[.int .u32 0, .int .u8 0, .int .i64 0, .int .i64 0]) 4 24 Tryz.underlying50 hi0 hz0 hz1 hz2 rfl _ _ _ rfl hL0.out _ _ _ rfl (hS.out _ hb0) q1 q2 hb0.size ?_; intro v1 w5 hown hgrow)
  go_ret
  refine ⟨v1, rfl, ?_, hb0.grown hgrow hb0.size (fun k hk => (hL0.out.lt k hk).1)⟩
  rw [Nat.zero_add] at hown
  exact hown
theorem Tryz.info17_time : (Tryz.prog.info? 122).map (fun i => (i.zero, i.size, i.bytes)) = some (some (.agg #[.int .u32 0, .int .u8 0, .int .i64 0, .int .i64 0, .int .i64 0]), 5, 32) := by kernel_rfl
theorem one_Times (x : Tm) : ∀ u ∈ enT x, u.oneCell' = true := fun u hu => by
 simp only [enT, List.mem_cons, List.not_mem_nil, or_false] at hu
 rcases hu with rfl | rfl | rfl | rfl | rfl <;> rfl
set_option maxRecDepth 20000 in
set_option maxHeartbeats 1000000 in
theorem p_CloneTimes (A : Option Addr) (c : Nat) (l : List Tm) (hm : l.length * 32 ≤ 140737488355328) (w : World) (h : Es enT w w.heap.size A l) :
    Calls Tryz.prog 151 #[.slice A l.length c] w (ClnRet 122 5 l.length (ecells enT l) w) := by
 have Heq := run_eq_slice_nil (P := Tryz.prog) w 59 122 A l.length c Tryz.underlying59
 cases A with
 | none =>
  have hl : l = [] := Classical.byContradiction fun hne => by
   obtain ⟨ad, e, _⟩ := h (ecells_ne (K := 5) (fun _ => rfl) (by decide) hne)
   cases e
  subst hl
  clear h
  have Heq : (binOp .eql 59 (.slice none 0 c) (.slice none 0 0)).run Tryz.prog w = .ok (.bool true) w := Heq
  change Calls Tryz.prog 151 #[.slice none 0 c] w (ClnRet 122 5 0 [] w)
  go_enter Tryz.func151, Tryz.ntmps151
  go_wp2_with fail
  go_ret
  exact ⟨_, rfl, own_none _ _ _ _, Below.refl _ _⟩
 | some ad =>
  have hS := hid (fun X (hX : Below w.heap.size w X) => src_es17 (K := 5) (fun _ => rfl) (by decide) one_Times (P := Tryz.prog) X Tryz.underlying59 (c := c) rfl (h.below hX (Nat.le_refl _)))
  obtain ⟨i0, hi0, hz0, hz1, hz2⟩ := info_parts Tryz.info17_time
  have hL0 := hid (World.ownsRow_lit (base := w.heap.size) (e := 122) (size := 5) w #[] 0 (Nat.le_refl _) (by unfold maxLen; omega) rfl)
  have hb0 := below_alloc w (.cells #[] 122)
  have q1 : 0 + l.length ≤ maxLen := by unfold maxLen; omega
  have q2 : (0 + l.length) * 32 ≤ 140737488355328 := by omega
  clear h
  go_enter Tryz.func151, Tryz.ntmps151
  go_wp2_with (at_builtin; refine wpList_append_srcN rfl _ _ 59 59 rfl w.heap.size 122 i0 (.agg #[.int .u32 0, .int .u8 0, .int .i64 0, .int .i64 0, .int .i64 0]) 5 32 Tryz.underlying59 hi0 hz0 hz1 hz2 rfl _ _ _ rfl hL0.out _ _ _ rfl (hS.out _ hb0) q1 q2 hb0.size ?_; intro v1 w5 hown hgrow)
  go_ret
  refine ⟨v1, rfl, ?_, hb0.grown hgrow hb0.size (fun k hk => (hL0.out.lt k hk).1)⟩
  rw [Nat.zero_add] at hown
  exact hown
theorem Tryz.info17_place : (Tryz.prog.info? 124).map (fun i => (i.zero, i.size, i.bytes)) = some (some (.agg #[.int .i64 0, .int .i64 0]), 2, 16) := by kernel_rfl
theorem one_Places (x : Pl) : ∀ u ∈ enP x, u.oneCell' = true := fun u hu => by
 simp only [enP, List.mem_cons, List.not_mem_nil, or_false] at hu
 rcases hu with rfl | rfl <;> rfl
set_option maxRecDepth 20000 in
set_option maxHeartbeats 1000000 in
theorem p_ClonePlaces (A : Option Addr) (c : Nat) (l : List Pl) (hm : l.length * 16 ≤ 140737488355328) (w : World) (h : Es enP w w.heap.size A l) :
    Calls Tryz.prog 152 #[.slice A l.length c] w (ClnRet 124 2 l.length (ecells enP l) w) := by
 have Heq := run_eq_slice_nil (P := Tryz.prog) w 60 124 A l.length c Tryz.underlying60
 cases A with
 | none =>
  have hl : l = [] := Classical.byContradiction fun hne => by
   obtain ⟨ad, e, _⟩ := h (ecells_ne (K := 2) (fun _ => rfl) (by decide) hne)
   cases e
  subst hl
  clear h
  have Heq : (binOp .eql 60 (.slice none 0 c) (.slice none 0 0)).run Tryz.prog w = .ok (.bool true) w := Heq
  change Calls Tryz.prog 152 #[.slice none 0 c] w (ClnRet 124 2 0 [] w)
  go_enter Tryz.func152, Tryz.ntmps152
  go_wp2_with fail
  go_ret
  exact ⟨_, rfl, own_none _ _ _ _, Below.refl _ _⟩
 | some ad =>
  have hS := hid (fun X (hX : Below w.heap.size w X) => src_es17 (K := 2) (fun _ => rfl) (by decide) one_Places (P := Tryz.prog) X Tryz.underlying60 (c := c) rfl (h.below hX (Nat.le_refl _)))
  obtain ⟨i0, hi0, hz0, hz1, hz2⟩ := info_parts Tryz.info17_place
  have hL0 := hid (World.ownsRow_lit (base := w.heap.size) (e := 124) (size := 2) w #[] 0 (Nat.le_refl _) (by unfold maxLen; omega) rfl)
  have hb0 := below_alloc w (.cells #[] 124)
  have q1 : 0 + l.length ≤ maxLen := by unfold maxLen; omega
  have q2 : (0 + l.length) * 16 ≤ 140737488355328 := by omega
  clear h
  go_enter Tryz.func152, Tryz.ntmps152
  go_wp2_with (at_builtin; refine wpList_append_srcN rfl _ _ 60 60 rfl w.heap.size 124 i0 (.agg #[.int .i64 0, .int .i64 0]) 2 16 Tryz.underlying60 hi0 hz0 hz1 hz2 rfl _ _ _ rfl hL0.out _ _ _ rfl (hS.out _ hb0) q1 q2 hb0.size ?_; intro v1 w5 hown hgrow)
  go_ret
  refine ⟨v1, rfl, ?_, hb0.grown hgrow hb0.size (fun k hk => (hL0.out.lt k hk).1)⟩
  rw [Nat.zero_add] at hown
  exact hown
end Go.Proofs.YtgmgccepmalahaaGreat
