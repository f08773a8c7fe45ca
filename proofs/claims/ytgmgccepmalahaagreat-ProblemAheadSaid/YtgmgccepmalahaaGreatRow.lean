/- Rows that are read (bytes, ints) and rows that are appended to, in general: no program's function is spoken of here. -/
import Derived.Test.YtgmgccepmalahaaGreatLib
import Derived.Test.YtgmgccepmalahaaGreatProg
import Derived.Outline
import Derived.DataElems
import Derived.OpenShut
import Derived.Deep.AppendSrc
import Derived.Deep.RegionLaw
import Derived.Deep.RegionHeld3
import Derived.Deep.QuietTactic
import Derived.BigQuiet
namespace Go.Proofs.YtgmgccepmalahaaGreat
open Go.RowKit

theorem toNat_of (n : Nat) (h : n < 256) : (UInt8.ofNat n).toNat = n := by
  rw [UInt8.toNat_ofNat']
  exact Nat.mod_eq_of_lt (by omega)
def I64 (i : Int) : Prop := -9223372036854775808 ≤ i ∧ i < 9223372036854775808
theorem add_block (a : Addr) (k : Nat) : (a.add k).block = a.block := by unfold Addr.add; split <;> rfl
/-- the slice value with this address reads as these values, and lies below block B -/
def Rd (w : World) (B : Nat) (A : Option Addr) (vs : List Value) : Prop :=
  vs ≠ [] → ∃ ad, A = some ad ∧ ad.block < B ∧ ∀ k v, vs[k]? = some v → w.cell? (ad.add k) = some v
theorem Rd.none_ (w : World) (B : Nat) (A : Option Addr) : Rd w B A [] := fun h => absurd rfl h
theorem Rd.at_ {w : World} {B : Nat} {A : Option Addr} {vs : List Value} (h : Rd w B A vs) {k : Nat} (hk : k < vs.length) : ∃ ad, A = some ad ∧ ad.block < B ∧ w.cell? (ad.add k) = some vs[k] := by
  obtain ⟨ad, e, hb, hc⟩ := h (by intro e; subst e; simp at hk)
  exact ⟨ad, e, hb, hc k _ (List.getElem?_eq_getElem hk)⟩
theorem Rd.keep {w w' : World} {B : Nat} {A : Option Addr} {vs : List Value} (h : Rd w B A vs) (hk : ∀ p : Addr, p.block < B → w'.cell? p = w.cell? p) : Rd w' B A vs := fun hn => by
  obtain ⟨ad, e, hb, hc⟩ := h hn
  exact ⟨ad, e, hb, fun k l hl => (hk _ (by rw [add_block]; exact hb)).trans (hc k l hl)⟩
theorem Rd.more {w : World} {B B' : Nat} {A : Option Addr} {vs : List Value} (h : Rd w B A vs) (hB : B ≤ B') : Rd w B' A vs := fun hn => by
  obtain ⟨ad, e, hb, hc⟩ := h hn
  exact ⟨ad, e, by omega, hc⟩
theorem Rd.below {w w' : World} {B C : Nat} {A : Option Addr} {vs : List Value} (h : Rd w B A vs) (hb : Below C w w') (hC : B ≤ C) : Rd w' B A vs := h.keep fun _ hp => hb.cell (Nat.lt_of_lt_of_le hp hC)
theorem Rd.of_own {w : World} {base : Nat} {e : TypeId} {A : Option Addr} {n c : Nat} {vs : List Value} (h : w.ownsRow base e 1 (.slice A n c) n vs) : Rd w w.heap.size A vs := fun hn => by
  have hl : vs.length = n := by have := h.1; simpa using this
  have hp : 0 < n := by rw [← hl]; exact List.length_pos_iff.2 hn
  rcases h.2 with ⟨_, h0⟩ | ⟨g, cap, cur, hv, _, hg, _⟩
  · omega
  have hA : A = some ⟨g, 0, none⟩ := by injection hv
  subst hA
  exact ⟨_, rfl, (h.lt g rfl).2, fun k l hk => h.cells (g := g) rfl k _ hk⟩
/-- a slice value of the call's own is an address, and reads as its values -/
theorem own_rd {w : World} {base : Nat} {e : TypeId} {v : Value} {n : Nat} {vs : List Value} (h : w.ownsRow base e 1 v n vs) : ∃ A c, v = .slice A n c ∧ Rd w w.heap.size A vs ∧ n ≤ c := by
  rcases h.2 with ⟨rfl, rfl⟩ | ⟨g, cap, cur, rfl, _, _, hn, _⟩
  · exact ⟨none, 0, rfl, by have := h.1; rw [List.eq_nil_of_length_eq_zero (l := vs) (by simpa using this)]; exact Rd.none_ _ _ _, Nat.le_refl _⟩
  · exact ⟨some ⟨g, 0, none⟩, cap, rfl, Rd.of_own h, hn⟩
/-- a part of a row -/
theorem Rd.part {w : World} {B : Nat} {A : Option Addr} {vs : List Value} (h : Rd w B A vs) (f t m : Nat) (ht : t ≤ m) : Rd w B (if m = f then A else A.map (·.add (f * 1))) ((vs.drop f).take (t - f)) := fun hn => by
  have hne : vs ≠ [] := by intro e; apply hn; rw [e]; simp
  obtain ⟨ad, rfl, hb, hc⟩ := h hne
  have hlt : f < t := by
    rcases Nat.lt_or_ge f t with h | h
    · exact h
    · exact absurd (by rw [show t - f = 0 by omega, List.take_zero]) hn
  rw [if_neg (by omega), Nat.mul_one]
  refine ⟨ad.add f, rfl, by rw [add_block]; exact hb, fun k v hk => ?_⟩
  rw [List.getElem?_take] at hk
  split at hk
  · rw [List.getElem?_drop] at hk
    rw [Addr.add_add]
    exact hc _ _ hk
  · cases hk
/-- a row of bytes; of ints -/
abbrev Byt (w : World) (B : Nat) (A : Option Addr) (l : List UInt8) : Prop := Rd w B A (l.map bcell)
abbrev Its (w : World) (B : Nat) (A : Option Addr) (l : List Int) : Prop := Rd w B A (l.map (Value.int .i64))
theorem Byt.get {w : World} {B : Nat} {A : Option Addr} {l : List UInt8} (h : Byt w B A l) {k : Nat} (hk : k < l.length) : ∃ ad x, A = some ad ∧ ad.block < B ∧ Hid (l.getD k 0 = x) ∧ w.cell? (ad.add k) = some (.int .u8 (x.toNat : Int)) := by
  obtain ⟨ad, e, hb, hc⟩ := Rd.at_ h (k := k) (by rw [List.length_map]; exact hk)
  refine ⟨ad, _, e, hb, rfl, ?_⟩
  rw [hc, List.getElem_map, List.getD_eq_getElem?_getD, List.getElem?_eq_getElem hk]
  rfl
theorem Byt.part {w : World} {B : Nat} {A : Option Addr} {l : List UInt8} (h : Byt w B A l) (f t m : Nat) (ht : t ≤ m) : Byt w B (if m = f then A else A.map (·.add (f * 1))) ((l.drop f).take (t - f)) := by
  have := Rd.part h f t m ht
  rwa [← List.map_drop, ← List.map_take] at this

theorem Its.get {w : World} {B : Nat} {A : Option Addr} {l : List Int} (h : Its w B A l) {k : Nat} (hk : k < l.length) : ∃ ad x, A = some ad ∧ ad.block < B ∧ Hid (l[k]? = some x) ∧ w.cell? (ad.add k) = some (.int .i64 x) := by
  obtain ⟨ad, e, hb, hc⟩ := Rd.at_ h (k := k) (by rw [List.length_map]; exact hk)
  exact ⟨ad, l[k], e, hb, List.getElem?_eq_getElem hk, by rw [hc, List.getElem_map]⟩
/-- 'string(b)' of a row of bytes that is read -/
theorem run_text_rd {P : Program} (w : World) {src dst e : TypeId} (hs : P.underlying src = some (.slice e)) (he : P.underlying e = some (.int .u8)) (hd : P.underlying dst = some .string)
    {B : Nat} {A : Option Addr} {n c : Nat} (l : List UInt8) (hn : l.length = n) (h : Byt w B A l) : (convert src dst (.slice A n c)).run P w = .ok (txt l) w := by
  by_cases hl : l = []
  · subst hl
    obtain rfl : n = 0 := hn.symm
    cases A with
    | none =>
      rw [run_convert_bytes_string w src dst e none 0 c hs he hd]
      simp [Conv.bytesToString, txt, bs]
      rfl
    | some a => exact run_text (src := src) (dst := dst) (e := e) w hs he hd a 0 c [] rfl (fun j u hu => by cases hu)
  · obtain ⟨ad, rfl, _, hc⟩ := h (by intro e; exact hl (List.map_eq_nil_iff.1 e))
    exact run_text w hs he hd ad n c l hn hc

/-- a slice that is full or the call's own, in a block from 'base' on -/
def FO (w : World) (base : Nat) (e : TypeId) (v : Value) (n : Nat) (xs : List Value) : Prop :=
  w.ownsRow base e 1 v n xs ∨ ∃ g, v = .slice (some ⟨g, 0, none⟩) n n ∧ base ≤ g ∧ g < w.heap.size ∧ xs.length = n ∧ ∀ j u, xs[j]? = some u → w.cell? ((⟨g, 0, none⟩ : Addr).add j) = some u
theorem FO.rd {w : World} {base : Nat} {e : TypeId} {v : Value} {n : Nat} {xs : List Value} (h : FO w base e v n xs) : ∃ A c, v = .slice A n c ∧ Rd w w.heap.size A xs ∧ n ≤ c := by
  rcases h with h | ⟨g, rfl, _, hg, hl, hc⟩
  · exact own_rd h
  · exact ⟨_, n, rfl, fun _ => ⟨_, rfl, hg, hc⟩, Nat.le_refl _⟩
theorem FO.lt {w : World} {base : Nat} {e : TypeId} {v : Value} {n : Nat} {xs : List Value} (h : FO w base e v n xs) : ∀ k, v.ownBlock = some k → base ≤ k := by
  intro k hk
  rcases h with h | ⟨g, rfl, hb, _⟩
  · exact (h.lt k hk).1
  · simp [Value.ownBlock] at hk; omega
theorem FO.below {w w' : World} {base : Nat} {e : TypeId} {v : Value} {n : Nat} {xs : List Value} (h : FO w base e v n xs) (hb : Below w.heap.size w w') : FO w' base e v n xs := by
  rcases h with h | ⟨g, hv, h1, h2, h3, h4⟩
  · exact .inl (own_below h hb)
  · exact .inr ⟨g, hv, h1, Nat.lt_of_lt_of_le h2 hb.size, h3, fun j u hu => (hb.cell (by rw [add_block]; exact h2)).trans (h4 j u hu)⟩

theorem own_mono {w : World} {base base' : Nat} {e : TypeId} {size : Nat} {v : Value} {n : Nat} {xs : List Value} (h : w.ownsRow base e size v n xs) (hb : base' ≤ base) : w.ownsRow base' e size v n xs :=
  ⟨h.1, h.2.imp id fun ⟨g, cap, cur, h1, h2, h3⟩ => ⟨g, cap, cur, h1, Nat.le_trans hb h2, h3⟩⟩
section
variable {P : Program} (w : World)
/-- at least one element more: a row of the call's own -/
theorem run_append_fo (base : Nat) (t ty e : TypeId) (i : TypeInfo) (z : Value) (bytes : Nat) (ht : P.underlying t = some (.slice e)) (hi : P.info? e = some i) (hz : i.zero = some z)
    (hsize : i.size = 1) (hby : i.bytes = bytes) (hzs : z.cells.size = 1) (v : Value) (n : Nat) (xs : List Value) (h : FO w base e v n xs)
    (a : Addr) (m c : Nat) (news : List Value) (hl : news.length = m * 1) (hnews : ∀ j u, news[j]? = some u → w.cell? (a.add j) = some u) (h1 : ∀ u ∈ news, u.oneCell' = true)
    (hm : 0 < m) (h63 : n + m ≤ maxLen) (hbytes : (n + m) * bytes ≤ 140737488355328) (hbase : base ≤ w.heap.size) :
    ∃ v' w', (Builtin.append_ #[t, t] ty #[v, .slice (some a) m c]).run P w = .ok v' w' ∧ w'.ownsRow base e 1 v' (n + m) (xs ++ news) ∧ w.grownBy w' v.ownBlock := by
  rcases h with h | ⟨g, rfl, hb, hg, hlx, hc⟩
  · obtain ⟨v', w', r1, r2, r3, _⟩ := run_append_own (P := P) w base t ty e i z 1 bytes ht hi hz hsize hby hzs (by decide) v n xs h a m c news hl hnews h1 h63 hbytes hbase
    exact ⟨v', w', r1, r2, r3⟩
  · obtain ⟨v', w', r1, r2, r3⟩ := run_append_arg_grows (P := P) w t ty e i z 1 bytes ht hi hz hsize hby hzs (by decide) ⟨g, 0, none⟩ n n xs (by rw [hlx, Nat.mul_one]) hc a m c news hl hnews (by omega) h63 hbytes
    exact ⟨v', w', r1, own_mono r2 hbase, r3.os, r3.tape, r3.output, r3.size, fun k hk _ => r3.block k hk (by simp)⟩
/-- a text's bytes onto a full slice -/
theorem run_append_full_text (base : Nat) (t tx ty e : TypeId) (i : TypeInfo) (z : Value) (bytes : Nat) (ht : P.underlying t = some (.slice e)) (htx : P.underlying tx = some .string) (hi : P.info? e = some i) (hz : i.zero = some z)
    (hsize : i.size = 1) (hby : i.bytes = bytes) (hzs : z.cells.size = 1) (g n : Nat) (xs : List Value) (hb : base ≤ g) (hg : g < w.heap.size) (hlx : xs.length = n) (hc : ∀ j u, xs[j]? = some u → w.cell? ((⟨g, 0, none⟩ : Addr).add j) = some u)
    (s : ByteArray) (h63 : n + s.size ≤ maxLen) (hbytes : (n + s.size) * bytes ≤ 140737488355328) (hbase : base ≤ w.heap.size) :
    ∃ v' w', (Builtin.append_ #[t, tx] ty #[.slice (some ⟨g, 0, none⟩) n n, .string s]).run P w = .ok v' w' ∧ FO w' base e v' (n + s.size) (xs ++ s.data.toList.map bcell) ∧ w.grownBy w' none := by
  have hsrc : Src P i.size tx (.string s) s.size (byteCells s) w := by rw [hsize]; exact Src.ofString w htx s
  by_cases h0 : s.size = 0
  · have hn : byteCells s = [] := List.eq_nil_of_length_eq_zero (by rw [byteCells_length, h0])
    have hr := run_append_room_src (P := P) w t tx ty e i ht hi g 0 n n (.string s) s.size (byteCells s) hsrc (by omega) (fun j hj => by rw [hn] at hj; exact absurd hj (Nat.not_lt_zero _)) (fun j hj => by rw [hn] at hj; exact absurd hj (Nat.not_lt_zero _))
    rw [hn] at hr
    refine ⟨_, _, hr, ?_, ⟨rfl, rfl, rfl, Nat.le_refl _, fun _ _ _ => rfl⟩⟩
    have hd : s.data.toList = [] := List.eq_nil_of_length_eq_zero (by rw [data_len, h0])
    rw [hd, List.map_nil, List.append_nil]
    exact .inr ⟨g, by rw [h0]; rfl, hb, hg, by omega, hc⟩
  · have hold : (Builtin.firstCells i.size n (.slice (some ⟨g, 0, none⟩) n n)).run P w.drew = .ok xs.toArray w.drew :=
      run_firstCells_some w.drew i.size n ⟨g, 0, none⟩ n n xs (by rw [hlx, hsize, Nat.mul_one]) hc
    have hge := grownCap_ge w (n + s.size) n e
    have hcm : grownCap w (n + s.size) n e ≤ maxLen := grownCap_le_maxLen w (n + s.size) n e h63
    have hr := run_append_grow_src (P := P) w t tx ty e i z ht hi hz (some ⟨g, 0, none⟩) n n xs hold (.string s) s.size (byteCells s) hsrc (by omega) (by unfold maxLen at h63; omega) (growslice_fits (by omega) (by rw [hby]; exact hbytes))
    have hbl := byteCells_length s
    have hlen : (xs ++ byteCells s).length = (n + s.size) * 1 := by rw [List.length_append, hlx, hbl]; omega
    refine ⟨_, _, hr, .inl ⟨?_, .inr ⟨w.heap.size, _, _, rfl, hbase, heap_alloc_new w.drew _, hge, hcm, ?_, ?_⟩⟩, ⟨rfl, rfl, rfl, by simp, fun k hk _ => heap_alloc_old w.drew _ hk⟩⟩
    · exact hlen
    · simp only [Array.size_append, List.size_toArray, size_zeroCells, hzs, hlen]
      omega
    · simp only [Array.toList_append, List.append_assoc]
      rw [← List.append_assoc, ← hlen]
      exact List.take_left
end
theorem wpList_append_fo {P : Program} {w : World} {ops : Array Oper} {rest : List Oper} {o : Oper} {a : Act} {Q : Exit → Act → World → Prop} (hgd : o.guard = none) (s x : Operand) (t : TypeId)
    (ho : o.op = .call { callee := .builtin .append, args := #[s, x], argTypes := #[t, t] })
    (base : Nat) (e : TypeId) (i : TypeInfo) (z : Value) (bytes : Nat) (ht : P.underlying t = some (.slice e)) (hi : P.info? e = some i) (hz : i.zero = some z)
    (hsize : i.size = 1) (hby : i.bytes = bytes) (hzs : z.cells.size = 1) (v : Value) (n : Nat) (xs : List Value) (hs : a.eval s = v) (hfo : FO w base e v n xs)
    (ad : Addr) (m c : Nat) (news : List Value) (hx : a.eval x = .slice (some ad) m c) (hl : news.length = m * 1) (hnews : ∀ j u, news[j]? = some u → w.cell? (ad.add j) = some u) (h1 : ∀ u ∈ news, u.oneCell' = true)
    (hm : 0 < m) (h63 : n + m ≤ maxLen) (hbytes : (n + m) * bytes ≤ 140737488355328) (hbase : base ≤ w.heap.size)
    (h : ∀ v' w', w'.ownsRow base e 1 v' (n + m) (xs ++ news) → w.grownBy w' v.ownBlock → wpList P ops Q rest (a.put o.dst v') w') : wpList P ops Q (o :: rest) a w := by
  refine wpList_plain hgd fun K hK' => ?_
  obtain ⟨v', w', hrun, r1, r2⟩ := run_append_fo (P := P) w base t o.type e i z bytes ht hi hz hsize hby hzs v n xs hfo ad m c news hl hnews h1 hm h63 hbytes hbase
  unfold Oper.wp
  simp [execOp, ho, resolve, invoke, builtin, hs, hx, hrun, Result.andThen]
  exact hK' _ _ (h v' w' r1 r2)
theorem wpList_append_full_text {P : Program} {w : World} {ops : Array Oper} {rest : List Oper} {o : Oper} {a : Act} {Q : Exit → Act → World → Prop} (hgd : o.guard = none) (s x : Operand) (t tx : TypeId)
    (ho : o.op = .call { callee := .builtin .append, args := #[s, x], argTypes := #[t, tx] })
    (base : Nat) (e : TypeId) (i : TypeInfo) (z : Value) (bytes : Nat) (ht : P.underlying t = some (.slice e)) (htx : P.underlying tx = some .string) (hi : P.info? e = some i) (hz : i.zero = some z)
    (hsize : i.size = 1) (hby : i.bytes = bytes) (hzs : z.cells.size = 1) (g n : Nat) (xs : List Value) (hb : base ≤ g) (hg : g < w.heap.size) (hs : a.eval s = .slice (some ⟨g, 0, none⟩) n n) (hlx : xs.length = n)
    (hc : ∀ j u, xs[j]? = some u → w.cell? ((⟨g, 0, none⟩ : Addr).add j) = some u) (tx' : ByteArray) (hx : a.eval x = .string tx')
    (h63 : n + tx'.size ≤ maxLen) (hbytes : (n + tx'.size) * bytes ≤ 140737488355328) (hbase : base ≤ w.heap.size)
    (h : ∀ v' w', FO w' base e v' (n + tx'.size) (xs ++ tx'.data.toList.map bcell) → w.grownBy w' none → wpList P ops Q rest (a.put o.dst v') w') : wpList P ops Q (o :: rest) a w := by
  refine wpList_plain hgd fun K hK' => ?_
  obtain ⟨v', w', hrun, r1, r2⟩ := run_append_full_text (P := P) w base t tx o.type e i z bytes ht htx hi hz hsize hby hzs g n xs hb hg hlx hc tx' h63 hbytes hbase
  unfold Oper.wp
  simp [execOp, ho, resolve, invoke, builtin, hs, hx, hrun, Result.andThen]
  exact hK' _ _ (h v' w' r1 r2)

/-! ### what hands out a row of bytes -/
def BRet (l : List UInt8) (w : World) (e : Ending) (w' : World) : Prop := ∃ A c, e = .returned (.slice A l.length c) ∧ Byt w' w'.heap.size A l ∧ l.length ≤ c ∧ Below w.heap.size w w'
theorem BRet.fo {l : List UInt8} {w w' : World} {base : Nat} {e : TypeId} {v : Value} {n : Nat} {xs : List Value} (h : FO w' base e v n xs) (hx : xs = l.map bcell) (hn : n = l.length) (hb : Below w.heap.size w w') : BRet l w (.returned v) w' := by
  subst hx
  subst hn
  obtain ⟨A, c, rfl, hr, hc⟩ := h.rd
  exact ⟨A, c, rfl, hr, hc, hb⟩

def BoolRet (b : Bool) (w : World) (e : Ending) (w' : World) : Prop := e = .returned (.bool b) ∧ w = w'
theorem BoolRet.mk {b c : Bool} (h : c = b) (w : World) : BoolRet b w (.returned (.bool c)) w := by unfold BoolRet; rw [h]; exact ⟨rfl, rfl⟩
def BoolDraw (b : Bool) (w : World) (e : Ending) (w' : World) : Prop := e = .returned (.bool b) ∧ ∃ n, w' = w.drewN n
theorem BoolDraw.mk {b c : Bool} {w w' : World} (h : c = b) (hw : ∃ n, w' = w.drewN n) : BoolDraw b w (.returned (.bool c)) w' := by unfold BoolDraw; rw [h]; exact ⟨rfl, hw⟩

theorem bs_inj {a b : List UInt8} (h : bs a = bs b) : a = b := by
  have := congrArg (fun s => s.data.toList) h
  exact this

/-! ### literals -/
theorem byt_lit (w : World) (l : List UInt8) (t : TypeId) (hm : l.length ≤ maxLen) : Byt (w.alloc (.cells (l.map bcell).toArray t)) (w.heap.size + 1) (some ⟨w.heap.size, 0, none⟩) l :=
  fun _ => ⟨_, rfl, Nat.lt_succ_self _, lit_cells w (l.map bcell) t (by rw [List.length_map]; exact hm)⟩
theorem its_lit (w : World) (l : List Int) (t : TypeId) (hm : l.length ≤ maxLen) : Its (w.alloc (.cells (l.map (Value.int .i64)).toArray t)) (w.heap.size + 1) (some ⟨w.heap.size, 0, none⟩) l :=
  fun _ => ⟨_, rfl, Nat.lt_succ_self _, lit_cells w (l.map (Value.int .i64)) t (by rw [List.length_map]; exact hm)⟩
theorem byt_lit' {w : World} {g : Nat} (hg : g = w.heap.size) (l : List UInt8) (t : TypeId) (hm : l.length ≤ maxLen) : Byt (w.alloc (.cells (l.map bcell).toArray t)) (g + 1) (some ⟨g, 0, none⟩) l := by subst hg; exact byt_lit w l t hm
theorem its_lit' {w : World} {g : Nat} (hg : g = w.heap.size) (l : List Int) (t : TypeId) (hm : l.length ≤ maxLen) : Its (w.alloc (.cells (l.map (Value.int .i64)).toArray t)) (g + 1) (some ⟨g, 0, none⟩) l := by subst hg; exact its_lit w l t hm
theorem below_alloc (w : World) (o : Obj) : Below w.heap.size w (w.alloc o) := (Below.refl _ _).alloc (Nat.le_refl _) _
/-! ### a region that draws, operation by operation -/
section
variable {P : Program} {ops : Array Oper} {Q : Exit → Act → World → Prop} {S : World → Prop} {md : Region.Mode}
theorem skipH (i d : Nat) {oi : Oper} {fuel : Nat} {listed : Array Bool} {a : Act} {w : World} (hi : ops[i]? = some oi) (hd : oi.dst = some d)
    (hs : Region.noSelect ops = true) (hf : Region.free md ops listed i = true) (hr : (Region.ready md ops listed).contains i = true)
    (hQ : ∀ c a w, Q (.panic c) (a.put (some d) undef) w → Q (.panic c) a w) (hw : Region.wanted oi (yielded ops a.tmps) = false) (hS : S w)
    (h : wpAnyH P md ops Q S fuel (listed.setIfInBounds i true) (a.put (some d) undef) w) : wpAnyH P md ops Q S (fuel + 1) listed a w :=
  wpAnyH_take hi hs hf hr (by rw [hd]; exact hQ) (.inr ⟨hw, rfl⟩) hS (by rw [hd]; exact h)
theorem takeH (i d : Nat) (v : Value) {oi : Oper} {fuel : Nat} {listed : Array Bool} {a : Act} {w : World} (hi : ops[i]? = some oi) (hd : oi.dst = some d)
    (hs : Region.noSelect ops = true) (hf : Region.free md ops listed i = true) (hr : (Region.ready md ops listed).contains i = true)
    (hQ : ∀ c a w, Q (.panic c) (a.put (some d) v) w → Q (.panic c) a w) (hw : Region.wanted oi (yielded ops a.tmps) = true) (he : ∀ w, S w → (execOp a.eval oi).run P w = .ok (.value v) w) (hS : S w)
    (h : wpAnyH P md ops Q S fuel (listed.setIfInBounds i true) (a.put (some d) v) w) : wpAnyH P md ops Q S (fuel + 1) listed a w :=
  wpAnyH_take hi hs hf hr (by rw [hd]; exact hQ) (.inl ⟨hw, he⟩) hS (by rw [hd]; exact h)
end

theorem Byt.pre {w : World} {B : Nat} {A : Option Addr} {l : List UInt8} (h : Byt w B A l) (k : Nat) : Byt w B A (l.take k) := fun hn => by
  have hne : l.map bcell ≠ [] := by intro e; apply hn; rw [List.map_take, e, List.take_nil]
  obtain ⟨ad, e, hb, hc⟩ := h hne
  refine ⟨ad, e, hb, fun j v hj => hc j v ?_⟩
  rw [List.map_take, List.getElem?_take] at hj
  split at hj
  · exact hj
  · cases hj

theorem open_byt {w : World} {a : Option Addr} {len cap : Nat} {zs : List Int} (h : (a = none ∧ len = 0 ∧ cap = 0 ∧ zs = []) ∨ ∃ x, a = some x ∧ len ≤ cap ∧ cap ≤ maxLen ∧ zs.length = cap ∧ (∀ i, i < zs.length → w.cell? (x.add i) = some (.int .u8 (zs.getD i 0))) ∧ ∀ n ∈ zs, (Lit.int .u8 n).wf = true) :
    ∃ l : List UInt8, l.length = len ∧ Byt w w.heap.size a l ∧ len ≤ cap ∧ cap ≤ maxLen := by
  rcases h with ⟨rfl, rfl, rfl, rfl⟩ | ⟨x, rfl, h1, h2, h3, h4, h5⟩
  · exact ⟨[], rfl, Rd.none_ _ _ _, Nat.le_refl _, Nat.zero_le _⟩
  · refine ⟨(zs.take len).map (fun n => UInt8.ofNat n.toNat), by rw [List.length_map, List.length_take]; omega, fun hne => ?_, h1, h2⟩
    have hp : 0 < zs.length := by
      rcases Nat.eq_zero_or_pos zs.length with h0 | h0
      · exact absurd (by rw [List.eq_nil_of_length_eq_zero h0, List.take_nil]; rfl) hne
      · exact h0
    refine ⟨x, rfl, ?_, fun k v hk => ?_⟩
    · have := World.block_lt_of_cell? _ _ (h4 0 hp)
      rwa [add_block] at this
    · rw [List.map_map, List.getElem?_map, List.getElem?_take] at hk
      split at hk
      · cases hz : zs[k]? with
        | none => rw [hz] at hk; cases hk
        | some n =>
          rw [hz] at hk
          injection hk with hk
          subst hk
          obtain ⟨hlt, hn⟩ := List.getElem?_eq_some_iff.1 hz
          have hb := bounds_u8 (h5 n (List.mem_iff_getElem?.2 ⟨k, hz⟩))
          rw [h4 k hlt, List.getD_eq_getElem?_getD, hz]
          show some (Value.int .u8 n) = some (Value.int .u8 ((UInt8.ofNat n.toNat).toNat : Int))
          rw [toNat_of _ (by omega), Int.toNat_of_nonneg hb.1]
      · cases hk
theorem open_its {w : World} {a : Option Addr} {len cap : Nat} {zs : List Int} (h : (a = none ∧ len = 0 ∧ cap = 0 ∧ zs = []) ∨ ∃ x, a = some x ∧ len ≤ cap ∧ cap ≤ maxLen ∧ zs.length = cap ∧ (∀ i, i < zs.length → w.cell? (x.add i) = some (.int .i64 (zs.getD i 0))) ∧ ∀ n ∈ zs, (Lit.int .i64 n).wf = true) :
    ∃ l : List Int, l.length = len ∧ Its w w.heap.size a l ∧ len ≤ cap ∧ cap ≤ maxLen ∧ ∀ i ∈ l, I64 i := by
  rcases h with ⟨rfl, rfl, rfl, rfl⟩ | ⟨x, rfl, h1, h2, h3, h4, h5⟩
  · exact ⟨[], rfl, Rd.none_ _ _ _, Nat.le_refl _, Nat.zero_le _, fun i hi => by cases hi⟩
  · refine ⟨zs.take len, by rw [List.length_take]; omega, fun hne => ?_, h1, h2, fun i hi => ?_⟩
    · have hp : 0 < zs.length := by
        rcases Nat.eq_zero_or_pos zs.length with h0 | h0
        · exact absurd (by rw [List.eq_nil_of_length_eq_zero h0, List.take_nil]; rfl) hne
        · exact h0
      refine ⟨x, rfl, ?_, fun k v hk => ?_⟩
      · have := World.block_lt_of_cell? _ _ (h4 0 hp)
        rwa [add_block] at this
      · rw [List.getElem?_map, List.getElem?_take] at hk
        split at hk
        · cases hz : zs[k]? with
          | none => rw [hz] at hk; cases hk
          | some n =>
            rw [hz] at hk
            injection hk with hk
            subst hk
            obtain ⟨hlt, hn⟩ := List.getElem?_eq_some_iff.1 hz
            rw [h4 k hlt, List.getD_eq_getElem?_getD, hz]
            rfl
        · cases hk
    · have := bounds_i64 (h5 i (List.mem_of_mem_take hi))
      unfold I64
      omega
section
variable {P : Program} (w : World)
theorem src_byt {e' tx : TypeId} (hk : P.underlying tx = some (.slice e')) {B : Nat} {A : Option Addr} {n c : Nat} {l : List UInt8} (hn : l.length = n) (h : Byt w B A l) : Src P 1 tx (.slice A n c) n (l.map bcell) w := by
  by_cases hl : l = []
  · subst hl
    obtain rfl : n = 0 := hn.symm
    cases A with
    | none => exact Src.ofNil w hk c
    | some a => exact Src.ofSlice w hk a 0 c [] rfl (fun j u hu => by cases hu) (fun u hu => by cases hu)
  · obtain ⟨ad, rfl, _, hc⟩ := h (by intro e; exact hl (List.map_eq_nil_iff.1 e))
    refine Src.ofSlice w hk ad n c (l.map bcell) (by rw [List.length_map, hn, Nat.mul_one]) hc ?_
    intro u hu
    obtain ⟨_, _, rfl⟩ := List.mem_map.1 hu
    rfl
/-- whatever is appended onto a row of the call's own that is not nil -/
theorem run_append_own_src (base : Nat) (t tx ty e : TypeId) (i : TypeInfo) (z : Value) (bytes : Nat) (ht : P.underlying t = some (.slice e)) (hi : P.info? e = some i) (hz : i.zero = some z)
    (hsize : i.size = 1) (hby : i.bytes = bytes) (hzs : z.cells.size = 1) (g n cap : Nat) (xs : List Value) (hown : w.ownsRow base e 1 (.slice (some ⟨g, 0, none⟩) n cap) n xs)
    (x : Value) (m : Nat) (news : List Value) (hs : Src P 1 tx x m news w) (h63 : n + m ≤ maxLen) (hbytes : (n + m) * bytes ≤ 140737488355328) (hbase : base ≤ w.heap.size) :
    ∃ g' cap' w', (Builtin.append_ #[t, tx] ty #[.slice (some ⟨g, 0, none⟩) n cap, x]).run P w = .ok (.slice (some ⟨g', 0, none⟩) (n + m) cap') w' ∧ w'.ownsRow base e 1 (.slice (some ⟨g', 0, none⟩) (n + m) cap') (n + m) (xs ++ news) ∧ w.grownBy w' (some g) := by
  have hs1 : Src P i.size tx x m news w := by rw [hsize]; exact hs
  have hnl := hs.newsLen
  rcases hown with ⟨hxl, ⟨hv, _⟩ | ⟨g1, cap1, cur, hv, hbg, hg, hncap, hcm, hcs, htake⟩⟩
  · injection hv with h1; cases h1
  injection hv with h1 _ h3
  injection h1 with h1
  injection h1 with h1
  subst h1
  subst h3
  have hlen : (xs ++ news).length = (n + m) * 1 := by rw [List.length_append, hxl, hnl]; omega
  by_cases hroom : n + m ≤ cap
  · have hst := run_storeCells_at P g (n * i.size) e news 0 cur w hg (by rw [hsize]; simp; omega) hs.one
    simp only [Nat.add_zero] at hst
    have hr : (Builtin.append_ #[t, tx] ty #[.slice (some ⟨g, 0, none⟩) n cap, x]).run P w = .ok (.slice (some ⟨g, 0, none⟩) (n + m) cap) (w.setRow g (cur.toList.take (n * i.size) ++ news ++ cur.toList.drop (n * i.size + news.length)).toArray) := by
      rcases hs1.kind with ⟨e', hk⟩ | hk <;> simp [Builtin.append_, run_underlying ht, run_underlying hk, sizeOf, typeInfo, hi, hs1.len, hroom, hs1.cells, Addr.add_lit, hst]
    refine ⟨g, cap, _, hr, ⟨hlen, .inr ⟨g, cap, _, rfl, hbg, setRow_heap w g cur _ e _ hg, hroom, hcm, ?_, ?_⟩⟩, ⟨rfl, rfl, rfl, by simp, fun k _ hk => setRow_other w g k _ (fun e => hk (by rw [e]))⟩⟩
    · simp only [List.size_toArray, List.length_append, List.length_take, List.length_drop, Array.length_toList, hsize]
      omega
    · rw [hsize, htake, ← hlen]
      exact List.take_left
  · have holds : ∀ j u, xs[j]? = some u → w.cell? ((⟨g, 0, none⟩ : Addr).add j) = some u :=
      World.ownsRow.cells (v := .slice (some ⟨g, 0, none⟩) n cap) ⟨hxl, .inr ⟨g, cap, cur, rfl, hbg, hg, hncap, hcm, hcs, htake⟩⟩ rfl
    have hold : (Builtin.firstCells i.size n (.slice (some ⟨g, 0, none⟩) n cap)).run P w.drew = .ok xs.toArray w.drew :=
      run_firstCells_some w.drew i.size n ⟨g, 0, none⟩ n cap xs (by rw [hxl, hsize]) holds
    have hge := grownCap_ge w (n + m) cap e
    have hgm : grownCap w (n + m) cap e ≤ maxLen := grownCap_le_maxLen w (n + m) cap e h63
    have hr := run_append_grow_src (P := P) w t tx ty e i z ht hi hz (some ⟨g, 0, none⟩) n cap xs hold x m news hs1 (by omega) (by unfold maxLen at h63; omega) (growslice_fits (by omega) (by rw [hby]; exact hbytes))
    refine ⟨w.heap.size, _, _, hr, ⟨hlen, .inr ⟨w.heap.size, _, _, rfl, hbase, heap_alloc_new w.drew _, hge, hgm, ?_, ?_⟩⟩, ⟨rfl, rfl, rfl, by simp, fun k hk _ => heap_alloc_old w.drew _ hk⟩⟩
    · simp only [Array.size_append, List.size_toArray, size_zeroCells, hzs, hlen]
      omega
    · simp only [Array.toList_append, List.append_assoc]
      rw [← List.append_assoc, ← hlen]
      exact List.take_left
end
theorem step_append_src {P : Program} {w : World} {ops : Array Oper} {o : Oper} {a : Act} {K : Act → World → Prop} {Q : Exit → Act → World → Prop} {E : Prop} (hgd : o.guard = none) (s x : Operand) (t tx : TypeId)
    (ho : o.op = .call { callee := .builtin .append, args := #[s, x], argTypes := #[t, tx] })
    (base : Nat) (e : TypeId) (i : TypeInfo) (z : Value) (bytes : Nat) (ht : P.underlying t = some (.slice e)) (hi : P.info? e = some i) (hz : i.zero = some z)
    (hsize : i.size = 1) (hby : i.bytes = bytes) (hzs : z.cells.size = 1) (g n cap : Nat) (xs : List Value) (hs : a.eval s = .slice (some ⟨g, 0, none⟩) n cap) (hown : w.ownsRow base e 1 (.slice (some ⟨g, 0, none⟩) n cap) n xs)
    (xv : Value) (m : Nat) (news : List Value) (hx : a.eval x = xv) (hsrc : Src P 1 tx xv m news w) (h63 : n + m ≤ maxLen) (hbytes : (n + m) * bytes ≤ 140737488355328) (hbase : base ≤ w.heap.size)
    (h : ∀ g' cap' w', w'.ownsRow base e 1 (.slice (some ⟨g', 0, none⟩) (n + m) cap') (n + m) (xs ++ news) → w.grownBy w' (some g) → K (a.put o.dst (.slice (some ⟨g', 0, none⟩) (n + m) cap')) w') :
    if Region.wanted o (yielded ops a.tmps) = true then Oper.wp P o a w K Q else E := by
  have hw : Region.wanted o (yielded ops a.tmps) = true := by simp [Region.wanted, hgd]
  rw [if_pos hw]
  obtain ⟨g', cap', w', hrun, r1, r2⟩ := run_append_own_src (P := P) w base t tx o.type e i z bytes ht hi hz hsize hby hzs g n cap xs hown xv m news hsrc h63 hbytes hbase
  unfold Oper.wp
  simp [execOp, ho, resolve, invoke, builtin, hs, hx, hrun, Result.andThen]
  exact h g' cap' w' r1 r2

theorem step_append_own {P : Program} {w : World} {ops : Array Oper} {o : Oper} {a : Act} {K : Act → World → Prop} {Q : Exit → Act → World → Prop} {E : Prop} (hgd : o.guard = none) (s x : Operand) (t : TypeId)
    (ho : o.op = .call { callee := .builtin .append, args := #[s, x], argTypes := #[t, t] })
    (base : Nat) (e : TypeId) (i : TypeInfo) (z : Value) (size bytes : Nat) (ht : P.underlying t = some (.slice e)) (hi : P.info? e = some i) (hz : i.zero = some z)
    (hsize : i.size = size) (hby : i.bytes = bytes) (hzs : z.cells.size = size) (hsz : 0 < size)
    (v : Value) (n : Nat) (xs : List Value) (hs : a.eval s = v) (hown : w.ownsRow base e size v n xs)
    (ad : Addr) (m c : Nat) (news : List Value) (hx : a.eval x = .slice (some ad) m c) (hl : news.length = m * size) (hnews : ∀ j u, news[j]? = some u → w.cell? (ad.add j) = some u) (h1 : ∀ u ∈ news, u.oneCell' = true)
    (h63 : n + m ≤ maxLen) (hbytes : (n + m) * bytes ≤ 140737488355328) (hbase : base ≤ w.heap.size)
    (h : ∀ v' w', w'.ownsRow base e size v' (n + m) (xs ++ news) → w.grownBy w' v.ownBlock → K (a.put o.dst v') w') :
    if Region.wanted o (yielded ops a.tmps) = true then Oper.wp P o a w K Q else E := by
  have hw : Region.wanted o (yielded ops a.tmps) = true := by simp [Region.wanted, hgd]
  rw [if_pos hw]
  exact wp_append_own w s x t ho base e i z size bytes ht hi hz hsize hby hzs hsz v n xs hs hown ad m c news hx hl hnews h1 h63 hbytes hbase fun v' w' h2 h3 _ => h v' w' h2 h3

theorem wpList_append_own_src {P : Program} {w : World} {ops : Array Oper} {rest : List Oper} {o : Oper} {a : Act} {Q : Exit → Act → World → Prop} (hgd : o.guard = none) (s x : Operand) (t tx : TypeId)
    (ho : o.op = .call { callee := .builtin .append, args := #[s, x], argTypes := #[t, tx] })
    (base : Nat) (e : TypeId) (i : TypeInfo) (z : Value) (bytes : Nat) (ht : P.underlying t = some (.slice e)) (hi : P.info? e = some i) (hz : i.zero = some z)
    (hsize : i.size = 1) (hby : i.bytes = bytes) (hzs : z.cells.size = 1) (g n cap : Nat) (xs : List Value) (hs : a.eval s = .slice (some ⟨g, 0, none⟩) n cap) (hown : w.ownsRow base e 1 (.slice (some ⟨g, 0, none⟩) n cap) n xs)
    (xv : Value) (m : Nat) (news : List Value) (hx : a.eval x = xv) (hsrc : Src P 1 tx xv m news w) (h63 : n + m ≤ maxLen) (hbytes : (n + m) * bytes ≤ 140737488355328) (hbase : base ≤ w.heap.size)
    (h : ∀ g' cap' w', w'.ownsRow base e 1 (.slice (some ⟨g', 0, none⟩) (n + m) cap') (n + m) (xs ++ news) → w.grownBy w' (some g) → wpList P ops Q rest (a.put o.dst (.slice (some ⟨g', 0, none⟩) (n + m) cap')) w') : wpList P ops Q (o :: rest) a w := by
  refine wpList_plain hgd fun K hK' => ?_
  obtain ⟨g', cap', w', hrun, r1, r2⟩ := run_append_own_src (P := P) w base t tx o.type e i z bytes ht hi hz hsize hby hzs g n cap xs hown xv m news hsrc h63 hbytes hbase
  unfold Oper.wp
  simp [execOp, ho, resolve, invoke, builtin, hs, hx, hrun, Result.andThen]
  exact hK' _ _ (h g' cap' w' r1 r2)
def OwnRet (e0 : TypeId) (l : List UInt8) (w : World) (e : Ending) (w' : World) : Prop := ∃ v, e = .returned v ∧ w'.ownsRow w.heap.size e0 1 v l.length (l.map bcell) ∧ Below w.heap.size w w'
theorem OwnRet.mk {e0 : TypeId} {l l' : List UInt8} {w w' : World} {v : Value} {n : Nat} {xs : List Value} (h : w'.ownsRow w.heap.size e0 1 v n xs) (hn : n = l.length) (hx : xs = l.map bcell) (hl : l' = l) (hb : Below w.heap.size w w') : OwnRet e0 l' w (.returned v) w' := by
  subst hn; subst hx; subst hl
  exact ⟨v, rfl, h, hb⟩
theorem OwnRet.b {e0 : TypeId} {l : List UInt8} {w w' : World} {e : Ending} (h : OwnRet e0 l w e w') : BRet l w e w' := by
  obtain ⟨v, he, ho, hb⟩ := h
  obtain ⟨A, c, rfl, hr, hc⟩ := own_rd ho
  exact ⟨A, c, he, hr, hc, hb⟩

end Go.Proofs.YtgmgccepmalahaaGreat
