/- What the proof of ProblemCopies stands on, part 1. -/
import Derived.WalkKit
import Derived.WalkSpells
import Derived.WalkLawsBesides
import Derived.Laws.OwnMore
import Derived.Test.YtgmgccepmalahaaGreatProg
import Derived.Outline
import Derived.DataElems
import Derived.OpenShut
import Derived.Deep.AppendSrc
import Derived.Deep.RegionLaw
import Derived.Deep.RegionHeld3
import Derived.Deep.QuietTactic
import Derived.BigQuiet
import Derived.BigRegion
import Derived.Lib.SmallJoins
namespace Go.Proofs.YtgmgccepmalahaaGreat
open Go.RowKit
theorem hid {p : Prop} (h : p) : Hid p := h
theorem below_drewN {B : Nat} {a w : World} (h : Below B a w) (n : Nat) : Below B a (w.drewN n) := ⟨h.os, h.tape, h.output, h.size, h.block⟩
theorem own_below {w w' : World} {base : Nat} {e : TypeId} {size : Nat} {v : Value} {n : Nat} {xs : List Value} (h : w.ownsRow base e size v n xs) (hb : Below w.heap.size w w') : w'.ownsRow base e size v n xs := by
 have hlt := h.lt
 refine ⟨h.1, ?_⟩
 rcases h.2 with h0 | ⟨g, cap, cur, hv, hg, hh, hr⟩
 · exact .inl h0
 · subst hv
   exact .inr ⟨g, cap, cur, rfl, hg, (hb.block g (hlt g rfl).2).trans hh, hr⟩
theorem le_alloc {b : Nat} {w : World} (h : b ≤ w.heap.size) (o : Obj) : b ≤ (w.alloc o).heap.size := Nat.le_trans h ((Below.refl w.heap.size w).alloc (Nat.le_refl _) o).size
theorem lit_cells (w : World) (xs : List Value) (t : TypeId) (hm : xs.length ≤ maxLen) : ∀ j u, xs[j]? = some u → (w.alloc (.cells xs.toArray t)).cell? ((⟨w.heap.size, 0, none⟩ : Addr).add j) = some u := by
 have hown := World.ownsRow_lit (base := w.heap.size) (e := t) (size := 1) w xs.toArray xs.length (Nat.le_refl _) hm (by simp)
 simpa using hown.cells rfl
theorem lit_one (w : World) (x : Value) (t : TypeId) : ∀ j u, [x][j]? = some u → (w.alloc (.cells #[x] t)).cell? ((⟨w.heap.size, 0, none⟩ : Addr).add j) = some u := lit_cells w [x] t (by show 1 ≤ maxLen; unfold maxLen; omega)
theorem ints_one (k : IntKind) (xs : List Int) : ∀ u ∈ xs.map (Value.int k), u.oneCell' = true := by
 intro u hu
 obtain ⟨x, _, rfl⟩ := List.mem_map.1 hu
 rfl
theorem int_one (k : IntKind) (x : Int) : ∀ u ∈ [Value.int k x], u.oneCell' = true := ints_one k [x]
def bs (l : List UInt8) : ByteArray := ⟨l.toArray⟩
abbrev txt (l : List UInt8) : Value := .string (bs l)
theorem bs_data (l : List UInt8) : (bs l).data.toList = l := rfl
theorem of_bs (s : ByteArray) : bs s.data.toList = s := by cases s; rfl
theorem bs_size (l : List UInt8) : (bs l).size = l.length := by show l.toArray.size = l.length; simp
theorem data_len (s : ByteArray) : s.data.toList.length = s.size := by show s.data.toList.length = s.data.size; simp
theorem list_of (s : ByteArray) : s.toList = s.data.toList := ByteArray.toList_eq s
end Go.Proofs.YtgmgccepmalahaaGreat
namespace Go.Proofs.YtgmgccepmalahaaGreat
open Go.RowKit
def I64 (i : Int) : Prop := -9223372036854775808 ≤ i ∧ i < 9223372036854775808
theorem add_block (a : Addr) (k : Nat) : (a.add k).block = a.block := by unfold Addr.add; split <;> rfl
def Rd (w : World) (B : Nat) (A : Option Addr) (vs : List Value) : Prop :=
 vs ≠ [] → ∃ ad, A = some ad ∧ ad.block < B ∧ ∀ k v, vs[k]? = some v → w.cell? (ad.add k) = some v
theorem Rd.none_ (w : World) (B : Nat) (A : Option Addr) : Rd w B A [] := fun h => absurd rfl h
theorem Rd.at_ {w : World} {B : Nat} {A : Option Addr} {vs : List Value} (h : Rd w B A vs) {k : Nat} (hk : k < vs.length) : ∃ ad, A = some ad ∧ ad.block < B ∧ w.cell? (ad.add k) = some vs[k] := by
 obtain ⟨ad, e, hb, hc⟩ := h (by intro e; subst e; simp at hk)
 exact ⟨ad, e, hb, hc k _ (List.getElem?_eq_getElem hk)⟩
theorem Rd.keep {w w' : World} {B : Nat} {A : Option Addr} {vs : List Value} (h : Rd w B A vs) (hk : ∀ p : Addr, p.block < B → w'.cell? p = w.cell? p) : Rd w' B A vs := fun hn => by
 obtain ⟨ad, e, hb, hc⟩ := h hn
 exact ⟨ad, e, hb, fun k l hl => (hk _ (by rw [add_block]; exact hb)).trans (hc k l hl)⟩
theorem Rd.more {w : World} {B B' : Nat} {A : Option Addr} {vs : List Value} (h : Rd w B A vs) (hB : B ≤ B') : Rd w B' A vs := fun hn => by
 obtain ⟨ad, e, hb, hc⟩ := h hn
 exact ⟨ad, e, by omega, hc⟩
theorem Rd.below {w w' : World} {B C : Nat} {A : Option Addr} {vs : List Value} (h : Rd w B A vs) (hb : Below C w w') (hC : B ≤ C) : Rd w' B A vs := h.keep fun _ hp => hb.cell (Nat.lt_of_lt_of_le hp hC)
theorem Rd.of_own {w : World} {base : Nat} {e : TypeId} {A : Option Addr} {n c : Nat} {vs : List Value} (h : w.ownsRow base e 1 (.slice A n c) n vs) : Rd w w.heap.size A vs := fun hn => by
 have hl : vs.length = n := by have := h.1; simpa using this
 have hp : 0 < n := by rw [← hl]; exact List.length_pos_iff.2 hn
 rcases h.2 with ⟨_, h0⟩ | ⟨g, cap, cur, hv, _, hg, _⟩
 · omega
 have hA : A = some ⟨g, 0, none⟩ := by injection hv
 subst hA
 exact ⟨_, rfl, (h.lt g rfl).2, fun k l hk => h.cells (g := g) rfl k _ hk⟩
theorem own_rd {w : World} {base : Nat} {e : TypeId} {v : Value} {n : Nat} {vs : List Value} (h : w.ownsRow base e 1 v n vs) : ∃ A c, v = .slice A n c ∧ Rd w w.heap.size A vs ∧ n ≤ c := by
 rcases h.2 with ⟨rfl, rfl⟩ | ⟨g, cap, cur, rfl, _, _, hn, _⟩
 · exact ⟨none, 0, rfl, by have := h.1; rw [List.eq_nil_of_length_eq_zero (l := vs) (by simpa using this)]; exact Rd.none_ _ _ _, Nat.le_refl _⟩
 · exact ⟨some ⟨g, 0, none⟩, cap, rfl, Rd.of_own h, hn⟩
abbrev Its (w : World) (B : Nat) (A : Option Addr) (l : List Int) : Prop := Rd w B A (l.map (Value.int .i64))
theorem Its.get {w : World} {B : Nat} {A : Option Addr} {l : List Int} (h : Its w B A l) {k : Nat} (hk : k < l.length) : ∃ ad x, A = some ad ∧ ad.block < B ∧ Hid (l[k]? = some x) ∧ w.cell? (ad.add k) = some (.int .i64 x) := by
 obtain ⟨ad, e, hb, hc⟩ := Rd.at_ h (k := k) (by rw [List.length_map]; exact hk)
 exact ⟨ad, l[k], e, hb, List.getElem?_eq_getElem hk, by rw [hc, List.getElem_map]⟩
theorem own_mono {w : World} {base base' : Nat} {e : TypeId} {size : Nat} {v : Value} {n : Nat} {xs : List Value} (h : w.ownsRow base e size v n xs) (hb : base' ≤ base) : w.ownsRow base' e size v n xs :=
 ⟨h.1, h.2.imp id fun ⟨g, cap, cur, h1, h2, h3⟩ => ⟨g, cap, cur, h1, Nat.le_trans hb h2, h3⟩⟩
section
variable {P : Program} (w : World)
end
theorem below_alloc (w : World) (o : Obj) : Below w.heap.size w (w.alloc o) := (Below.refl _ _).alloc (Nat.le_refl _) _
section
variable {P : Program} {ops : Array Oper} {Q : Exit → Act → World → Prop} {S : World → Prop} {md : Region.Mode}
theorem skipH (i d : Nat) {oi : Oper} {fuel : Nat} {listed : Array Bool} {a : Act} {w : World} (hi : ops[i]? = some oi) (hd : oi.dst = some d)
 (hs : Region.noSelect ops = true) (hf : Region.free md ops listed i = true) (hr : (Region.ready md ops listed).contains i = true)
 (hQ : ∀ c a w, Q (.panic c) (a.put (some d) undef) w → Q (.panic c) a w) (hw : Region.wanted oi (yielded ops a.tmps) = false) (hS : S w)
 (h : wpAnyH P md ops Q S fuel (listed.setIfInBounds i true) (a.put (some d) undef) w) : wpAnyH P md ops Q S (fuel + 1) listed a w :=
 wpAnyH_take hi hs hf hr (by rw [hd]; exact hQ) (.inr ⟨hw, rfl⟩) hS (by rw [hd]; exact h)
theorem takeH (i d : Nat) (v : Value) {oi : Oper} {fuel : Nat} {listed : Array Bool} {a : Act} {w : World} (hi : ops[i]? = some oi) (hd : oi.dst = some d)
 (hs : Region.noSelect ops = true) (hf : Region.free md ops listed i = true) (hr : (Region.ready md ops listed).contains i = true)
 (hQ : ∀ c a w, Q (.panic c) (a.put (some d) v) w → Q (.panic c) a w) (hw : Region.wanted oi (yielded ops a.tmps) = true) (he : ∀ w, S w → (execOp a.eval oi).run P w = .ok (.value v) w) (hS : S w)
 (h : wpAnyH P md ops Q S fuel (listed.setIfInBounds i true) (a.put (some d) v) w) : wpAnyH P md ops Q S (fuel + 1) listed a w :=
 wpAnyH_take hi hs hf hr (by rw [hd]; exact hQ) (.inl ⟨hw, he⟩) hS (by rw [hd]; exact h)
end
theorem pt {l : List Value} {ds} {d : Nat} {v : Value} : (Act.mk l.toArray ds).put (some d) v = Act.mk (l.set d v).toArray ds := by
 simp only [Act.put, List.setIfInBounds_toArray]
section
variable {P : Program} {md : Region.Mode} {ops : Array Oper} {Q : Exit → Act → World → Prop} {S : World → Prop}
theorem tkH (i d : Nat) (v : Value) {oi : Oper} {fuel : Nat} {listed : Array Bool} {a : Act} {w : World} (hi : ops[i]? = some oi) (hd : oi.dst = some d) (he : ∀ w, S w → (execOp a.eval oi).run P w = .ok (.value v) w) (hS : S w)
 (h : wpAnyH P md ops Q S fuel (listed.setIfInBounds i true) (a.put (some d) v) w)
 (hs : Region.noSelect ops = true := by kernel_rfl) (hf : Region.free md ops listed i = true := by kernel_rfl) (hr : (Region.ready md ops listed).contains i = true := by kernel_rfl)
 (hQ : ∀ c a w, Q (.panic c) (a.put (some d) v) w → Q (.panic c) a w := by exact fun _ _ _ h => h) (hw : Region.wanted oi (yielded ops a.tmps) = true := by kernel_rfl) : wpAnyH P md ops Q S (fuel + 1) listed a w := takeH i d v hi hd hs hf hr hQ hw he hS h
theorem tkD (i d : Nat) (v : Value) {oi : Oper} {fuel : Nat} {listed : Array Bool} {a : Act} {w : World} (hi : ops[i]? = some oi) (hd : oi.dst = some d) (hS : S w)
 (h : wpAnyH P md ops Q S fuel (listed.setIfInBounds i true) (a.put (some d) v) w)
 (hs : Region.noSelect ops = true := by kernel_rfl) (hf : Region.free md ops listed i = true := by kernel_rfl) (hr : (Region.ready md ops listed).contains i = true := by kernel_rfl)
 (hQ : ∀ c a w, Q (.panic c) (a.put (some d) v) w → Q (.panic c) a w := by exact fun _ _ _ h => h) (hw : Region.wanted oi (yielded ops a.tmps) = true := by kernel_rfl) (he : ∀ w, S w → (execOp a.eval oi).run P w = .ok (.value v) w := by intro X hX; clear hX; first | rfl | go_simp) : wpAnyH P md ops Q S (fuel + 1) listed a w := takeH i d v hi hd hs hf hr hQ hw he hS h
theorem skD (i d : Nat) {oi : Oper} {fuel : Nat} {listed : Array Bool} {a : Act} {w : World} (hi : ops[i]? = some oi) (hd : oi.dst = some d) (hS : S w)
 (h : wpAnyH P md ops Q S fuel (listed.setIfInBounds i true) (a.put (some d) undef) w)
 (hs : Region.noSelect ops = true := by kernel_rfl) (hf : Region.free md ops listed i = true := by kernel_rfl) (hr : (Region.ready md ops listed).contains i = true := by kernel_rfl)
 (hQ : ∀ c a w, Q (.panic c) (a.put (some d) undef) w → Q (.panic c) a w := by exact fun _ _ _ h => h) (hw : Region.wanted oi (yielded ops a.tmps) = false := by kernel_rfl) : wpAnyH P md ops Q S (fuel + 1) listed a w := skipH i d hi hd hs hf hr hQ hw hS h
end
section
variable {P : Program} (w : World)
end
theorem step_append_own {P : Program} {w : World} {ops : Array Oper} {o : Oper} {a : Act} {K : Act → World → Prop} {Q : Exit → Act → World → Prop} {E : Prop} (hgd : o.guard = none) (s x : Operand) (t : TypeId)
 (ho : o.op = .call { callee := .builtin .append, args := #[s, x], argTypes := #[t, t] })
 (base : Nat) (e : TypeId) (i : TypeInfo) (z : Value) (size bytes : Nat) (ht : P.underlying t = some (.slice e)) (hi : P.info? e = some i) (hz : i.zero = some z)
 (hsize : i.size = size) (hby : i.bytes = bytes) (hzs : z.cells.size = size) (hsz : 0 < size)
 (v : Value) (n : Nat) (xs : List Value) (hs : a.eval s = v) (hown : w.ownsRow base e size v n xs)
 (ad : Addr) (m c : Nat) (news : List Value) (hx : a.eval x = .slice (some ad) m c) (hl : news.length = m * size) (hnews : ∀ j u, news[j]? = some u → w.cell? (ad.add j) = some u) (h1 : ∀ u ∈ news, u.oneCell' = true)
 (h63 : n + m ≤ maxLen) (hbytes : (n + m) * bytes ≤ 140737488355328) (hbase : base ≤ w.heap.size)
 (h : ∀ v' w', w'.ownsRow base e size v' (n + m) (xs ++ news) → w.grownBy w' v.ownBlock → K (a.put o.dst v') w') :
 if Region.wanted o (yielded ops a.tmps) = true then Oper.wp P o a w K Q else E := by
 have hw : Region.wanted o (yielded ops a.tmps) = true := by simp [Region.wanted, hgd]
 rw [if_pos hw]
 exact wp_append_own w s x t ho base e i z size bytes ht hi hz hsize hby hzs hsz v n xs hs hown ad m c news hx hl hnews h1 h63 hbytes hbase fun v' w' h2 h3 _ => h v' w' h2 h3
end Go.Proofs.YtgmgccepmalahaaGreat
namespace Go.Proofs.YtgmgccepmalahaaGreat
open Go.RowKit
def Did (v : Value) (w : World) (e : Ending) (w' : World) : Prop := e = .returned v ∧ Below w.heap.size w w'
theorem Did.mk {v v' : Value} {w w' : World} (h : v' = v) (hb : Below w.heap.size w w') : Did v w (.returned v') w' := by subst h; exact ⟨rfl, hb⟩
def Ob (w : World) (B : Nat) (cs : List Value) (t : TypeId) : Prop := w.heap[B]? = some (.cells cs.toArray t)
section
variable {w w' : World} {B : Nat} {cs : List Value} {t : TypeId}
theorem Ob.cell (h : Ob w B cs t) {k : Nat} {v : Value} (hv : cs[k]? = some v) : w.cell? ⟨B, k, none⟩ = some v := by unfold Ob at h; simp [World.cell?, h, hv]
theorem Ob.free (h : Ob w B cs t) (k : Nat) : w.frozen? ⟨B, k, none⟩ = false := by unfold Ob at h; simp [World.frozen?, h]
theorem Ob.lt (h : Ob w B cs t) : B < w.heap.size := (Array.getElem?_eq_some_iff.1 h).1
theorem Ob.below {C : Nat} (h : Ob w B cs t) (hb : Below C w w') (hB : B < C) : Ob w' B cs t := (hb.block B hB).trans h
theorem Ob.next (h : Ob w B cs t) (hb : Below w.heap.size w w') : Ob w' B cs t := h.below hb h.lt
theorem Ob.other (h : Ob w B cs t) {p : Addr} (hp : p.block ≠ B) (v : Value) : Ob (w.setCell p v) B cs t := by
 obtain ⟨hq, e⟩ := Array.getElem?_eq_some_iff.1 h
 unfold Ob
 rw [← e]
 simp [World.setCell, hq, Array.getElem_modify, hp]
theorem Ob.set (h : Ob w B cs t) (k : Nat) (v : Value) : Ob (w.setCell ⟨B, k, none⟩ v) B (cs.set k v) t := by
 obtain ⟨hq, e⟩ := Array.getElem?_eq_some_iff.1 h
 simp [Ob, World.setCell, hq, Array.getElem_modify_self, e]
theorem Ob.new (w : World) (cs : List Value) (t : TypeId) : Ob (w.alloc (.cells cs.toArray t)) w.heap.size cs t := heap_alloc_new w _
end
abbrev Obs := List (Nat × List Value × TypeId)
def Mem (w X : World) (l : Obs) : Prop := (∀ p ∈ l, Ob X p.1 p.2.1 p.2.2) ∧ Below w.heap.size w X
section
variable {w X X' : World} {l : Obs}
theorem Mem.nil (w : World) : Mem w w [] := ⟨fun p hp => (by cases hp), Below.refl _ _⟩
theorem Mem.next (h : Mem w X l) (hb : Below X.heap.size X X') : Mem w X' l := ⟨fun p hp => (h.1 p hp).next hb, h.2.trans (hb.mono h.2.size)⟩
theorem Mem.drew (h : Mem w X l) : Mem w X.drew l := ⟨h.1, h.2.drew⟩
theorem Mem.one (h : Mem w X l) (cs : List Value) (t : TypeId) : ∃ b W, X.heap.size = b ∧ X.alloc (.cells cs.toArray t) = W ∧ Hid (Mem w W ((b, cs, t) :: l)) ∧ Below X.heap.size X W := by
 have hb := below_alloc X (.cells cs.toArray t)
 refine ⟨_, _, rfl, rfl, hid ⟨fun p hp => ?_, (h.next hb).2⟩, hb⟩
 rcases List.mem_cons.1 hp with rfl | hp
 · exact Ob.new X cs t
 · exact (h.next hb).1 p hp
theorem Mem.at_ (h : Mem w X l) {b : Nat} {cs : List Value} {t : TypeId} (hm : (b, cs, t) ∈ l) : Ob X b cs t := h.1 _ hm
theorem Mem.cell (h : Mem w X l) {b : Nat} {cs : List Value} {t : TypeId} (hm : (b, cs, t) ∈ l) {k : Nat} {v : Value} (hv : cs[k]? = some v) : X.cell? ⟨b, k, none⟩ = some v := (h.1 _ hm).cell hv
end
theorem Mem.sub {w X : World} {l l' : Obs} (h : Mem w X l) (hs : ∀ p ∈ l', p ∈ l) : Mem w X l' := ⟨fun p hp => h.1 p (hs p hp), h.2⟩
theorem Mem.set {w X : World} {l : Obs} {D : Nat} {cs : List Value} {t : TypeId} (h : Mem w X ((D, cs, t) :: l)) (hD : w.heap.size ≤ D) (hne : ∀ p ∈ l, p.1 ≠ D) (k : Nat) (v : Value) : Mem w (X.setCell ⟨D, k, none⟩ v) ((D, cs.set k v, t) :: l) := by
 refine ⟨fun p hp => ?_, h.2.setCell hD v⟩
 rcases List.mem_cons.1 hp with rfl | hp
 · exact (h.at_ (List.mem_cons_self ..)).set k v
 · exact (h.1 p (List.mem_cons_of_mem _ hp)).other (fun e => hne p hp e.symm) v
theorem its_next {X X' : World} {A : Option Addr} {L : List Int} (h : Its X X.heap.size A L) (hb : Below X.heap.size X X') : Its X' X'.heap.size A L := (h.below hb (Nat.le_refl _)).more hb.size
end Go.Proofs.YtgmgccepmalahaaGreat
namespace Go.Proofs.YtgmgccepmalahaaGreat.Whn
structure Gr where
 w : Int
 d : Int
 s : Int
structure Wh where
 w : Nat
 d : Nat
 s : Int
 l : Int
def rgrid (g : Gr) : Bool := decide (1 ≤ g.w ∧ g.w ≤ 20 ∧ 1 ≤ g.d ∧ g.d ≤ 7 ∧ 1 ≤ g.s ∧ g.s ≤ 96)
def right (g : Gr) (x : Wh) : Bool := rgrid g && decide (x.w ≠ 0 ∧ x.d ≠ 0 ∧ 0 ≤ x.s ∧ 1 ≤ x.l ∧ x.s + x.l ≤ g.s ∧ x.w < 2 ^ g.w.toNat ∧ x.d < 2 ^ g.d.toNat)
theorem rgrid_iff (g : Gr) : rgrid g = true ↔ 1 ≤ g.w ∧ g.w ≤ 20 ∧ 1 ≤ g.d ∧ g.d ≤ 7 ∧ 1 ≤ g.s ∧ g.s ≤ 96 := by unfold rgrid; rw [decide_eq_true_iff]
theorem right_iff (g : Gr) (x : Wh) : right g x = true ↔ rgrid g = true ∧ x.w ≠ 0 ∧ x.d ≠ 0 ∧ 0 ≤ x.s ∧ 1 ≤ x.l ∧ x.s + x.l ≤ g.s ∧ x.w < 2 ^ g.w.toNat ∧ x.d < 2 ^ g.d.toNat := by
 unfold right
 rw [Bool.and_eq_true, decide_eq_true_iff]
theorem right_grid {g : Gr} {x : Wh} (h : right g x = true) : rgrid g = true := ((right_iff g x).1 h).1
end Go.Proofs.YtgmgccepmalahaaGreat.Whn
namespace Go.Proofs.YtgmgccepmalahaaGreat.Whn
section
variable {g : Gr} {x : Wh} (hr : right g x = true) {D S s l : Nat} (hD : g.d = D) (hS : g.s = S) (hs : x.s = s) (hl : x.l = l) {i j : Nat} (hi : (i : Int) < g.w) (hj : j < D)
include hr hD hS hi hj
end
end Go.Proofs.YtgmgccepmalahaaGreat.Whn
namespace Go.Proofs.YtgmgccepmalahaaGreat
open Go.RowKit
open Whn (Gr Wh)
abbrev gv (g : Gr) : Value := .agg #[.int .i64 g.w, .int .i64 g.d, .int .i64 g.s]
abbrev wv (x : Wh) : Value := .agg #[.int .u32 (x.w : Int), .int .u8 (x.d : Int), .int .i64 x.s, .int .i64 x.l]
def Gok (g : Gr) : Prop := I64 g.w ∧ I64 g.d ∧ I64 g.s
def Wok (x : Wh) : Prop := x.w < 4294967296 ∧ x.d < 256 ∧ I64 x.s ∧ I64 x.l
end Go.Proofs.YtgmgccepmalahaaGreat
namespace Go.Proofs.YtgmgccepmalahaaGreat
open Go.RowKit
open Whn (Gr Wh)
abbrev gc (g : Gr) : List Value := [.int .i64 g.w, .int .i64 g.d, .int .i64 g.s]
abbrev wc (x : Wh) : List Value := [.int .u32 (x.w : Int), .int .u8 (x.d : Int), .int .i64 x.s, .int .i64 x.l]
theorem Mem.wh {w X : World} {l : Obs} (h : Mem w X l) {B : Nat} {x : Wh} (hm : (B, wc x, 55) ∈ l) : X.cell? ⟨B, 0, none⟩ = some (.int .u32 (x.w : Int)) ∧ X.cell? ⟨B, 1, none⟩ = some (.int .u8 (x.d : Int)) ∧ X.cell? ⟨B, 2, none⟩ = some (.int .i64 x.s) ∧ X.cell? ⟨B, 3, none⟩ = some (.int .i64 x.l) :=
 ⟨h.cell hm rfl, h.cell hm rfl, h.cell hm rfl, h.cell hm rfl⟩
theorem Mem.gr {w X : World} {l : Obs} (h : Mem w X l) {B : Nat} {g : Gr} (hm : (B, gc g, 23) ∈ l) : X.cell? ⟨B, 0, none⟩ = some (.int .i64 g.w) ∧ X.cell? ⟨B, 1, none⟩ = some (.int .i64 g.d) ∧ X.cell? ⟨B, 2, none⟩ = some (.int .i64 g.s) :=
 ⟨h.cell hm rfl, h.cell hm rfl, h.cell hm rfl⟩
end Go.Proofs.YtgmgccepmalahaaGreat
namespace Go.Proofs.YtgmgccepmalahaaGreat
open Go.RowKit
open Whn (Gr Wh)
end Go.Proofs.YtgmgccepmalahaaGreat
namespace Go.Proofs.YtgmgccepmalahaaGreat
open Go.RowKit
open Whn (Gr Wh)
end Go.Proofs.YtgmgccepmalahaaGreat
namespace Go.Proofs.YtgmgccepmalahaaGreat
open Go.RowKit
open Whn (Gr Wh)
def pre (g : Gr) (x : Wh) : Bool := Whn.rgrid g && decide (x.w ≠ 0 ∧ x.d ≠ 0 ∧ 0 ≤ x.s ∧ 1 ≤ x.l ∧ x.s + x.l ≤ g.s)
end Go.Proofs.YtgmgccepmalahaaGreat
namespace Go.Proofs.YtgmgccepmalahaaGreat
open Go.RowKit
open Whn (Gr Wh)
theorem Tryz.info_int : (Tryz.prog.info? 3).map (fun i => (i.zero, i.size, i.bytes)) = some (some (.int .i64 0), 1, 8) := by kernel_rfl
end Go.Proofs.YtgmgccepmalahaaGreat
