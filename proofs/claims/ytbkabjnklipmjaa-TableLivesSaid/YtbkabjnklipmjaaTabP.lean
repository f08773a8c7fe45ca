/- The program's contracts for layer 6: a table is a block that points to a tree; trees are never changed, and may be shared. -/
import Derived.Test.YtbkabjnklipmjaaTrD
namespace Go.Proofs.Ytbkabjnklipmjaa
open Go.RowKit Go.Shelf
open Tbm (Kv Tr)
set_option linter.unusedVariables false
attribute [local go_sem] Oper.semAt_some

theorem del_of_none {m : List Kv} {key : List UInt8} (h : Tbm.get m key = none) : Tbm.del m key = m := Tbm.del_none fun q hq e => by
  have := (Tbm.get_some_iff m key).2 ⟨q, hq, e⟩
  rw [h] at this; cases this
/-- block p is a table with these pairs; all that it is lies in the blocks of F -/
def Tb (w : World) (F : Nat → Prop) (p : Nat) (m : List Kv) : Prop :=
  F p ∧ (∀ b, F b → b < w.heap.size) ∧ Tbm.Srt m ∧ ∃ q T, T.flat = m ∧ Boxed w p 28 (.pointer q) ∧ IsTr (fun b => F b ∧ b ≠ p) w q T
theorem Tb.self {w : World} {F : Nat → Prop} {p : Nat} {m : List Kv} (h : Tb w F p m) : F p := h.1
theorem Tb.lt {w : World} {F : Nat → Prop} {p : Nat} {m : List Kv} (h : Tb w F p m) : ∀ k, F k → k < w.heap.size := h.2.1
theorem Tb.srt {w : World} {F : Nat → Prop} {p : Nat} {m : List Kv} (h : Tb w F p m) : Tbm.Srt m := h.2.2.1
theorem Tb.keep {w w' : World} {F : Nat → Prop} {p : Nat} {m : List Kv} (h : Tb w F p m) (hk : ∀ k, F k → w'.heap[k]? = w.heap[k]?) : Tb w' F p m := by
  obtain ⟨h1, h2, h3, q, T, h4, h5, h6⟩ := h
  refine ⟨h1, fun b hb => ?_, h3, q, T, h4, (hk p h1).trans h5, h6.keep fun b hb _ => hk b hb.1⟩
  have e := hk b hb
  rw [Array.getElem?_eq_getElem (h2 b hb)] at e
  exact (Array.getElem?_eq_some_iff.1 e).1
/-- a changed table: nothing that was there is changed but the block p -/
def TbTo (F : Nat → Prop) (p : Nat) (m : List Kv) (w w' : World) : Prop := (∃ F', Tb w' F' p m ∧ ∀ k, F' k → F k ∨ w.heap.size ≤ k) ∧ Kept (fun k => k = p) w w'
/-- a new one -/
def TbNew (p : Nat) (m : List Kv) (w w' : World) : Prop := (∃ F, Tb w' F p m ∧ ∀ k, F k → w.heap.size ≤ k) ∧ Below w.heap.size w w'

theorem tb_zero (w : World) : TbNew w.heap.size [] w (w.alloc (.cells #[.pointer none] 28)) := by
  have hb := (Below.refl w.heap.size w).alloc (Nat.le_refl _) (.cells #[.pointer none] 28)
  exact ⟨⟨fun k => k = w.heap.size, ⟨rfl, fun b hb => by simp at hb ⊢; omega, Tbm.srt_nil, none, .leaf, rfl, Boxed.new _ _ _, rfl⟩, fun k hk => by omega⟩, hb⟩
/-- the root is changed -/
theorem tb_to {w w1 : World} {F : Nat → Prop} {p : Nat} {m m' : List Kv} {q' : Option Addr} {T' : Tr} (h : Tb w F p m) (hb : Below w.heap.size w w1) (hs : Tbm.Srt m') (hm : T'.flat = m') (ht : IsTr (fun b => (F b ∧ b ≠ p) ∨ w.heap.size ≤ b) w1 q' T') : TbTo F p m' w (w1.setCell ⟨p, 0, none⟩ (.pointer q')) := by
  obtain ⟨h1, h2, h3, q, T, h4, h5, h6⟩ := h
  have hp := h2 p h1
  have h51 : Boxed w1 p 28 (.pointer q) := (hb.block p hp).trans h5
  have hg := grownBy_setCell' w1 p (.pointer q')
  refine ⟨⟨fun b => (F b ∨ w.heap.size ≤ b) ∧ b < (w1.setCell ⟨p, 0, none⟩ (.pointer q')).heap.size, ⟨⟨.inl h1, Nat.lt_of_lt_of_le hp (Nat.le_trans hb.size hg.size)⟩, fun b hb => hb.2, hs, q', T', hm, h51.set _, ?_⟩, fun k hk => hk.1⟩, ?_⟩
  · have hk : IsTr (fun b => (F b ∧ b ≠ p) ∨ w.heap.size ≤ b) (w1.setCell ⟨p, 0, none⟩ (.pointer q')) q' T' := ht.keep fun b hb hlt => hg.block b hlt (fun e => by cases e; rcases hb with h | h; exact h.2 rfl; omega)
    exact hk.mono fun b hb hlt => ⟨⟨hb.imp (·.1) id, hlt⟩, fun e => by subst e; rcases hb with h | h; exact h.2 rfl; omega⟩
  · exact ⟨hg.os.trans hb.os, hg.tape.trans hb.tape, hg.output.trans hb.output, Nat.le_trans hb.size hg.size, fun k hk hne => (hg.block k (Nat.lt_of_lt_of_le hk hb.size) (fun e => by cases e; exact hne rfl)).trans (hb.block k hk)⟩
theorem tb_same {w w1 : World} {F : Nat → Prop} {p : Nat} {m : List Kv} (h : Tb w F p m) (hb : Below w.heap.size w w1) : TbTo F p m w w1 :=
  ⟨⟨F, h.keep fun k hk => hb.block k (h.lt k hk), fun k hk => .inl hk⟩, Kept.of hb⟩

def RtRet (q : Option Addr) (w : World) (e : Ending) (w' : World) : Prop := e = .returned (.pointer q) ∧ w = w'
set_option maxRecDepth 20000 in
theorem p_tree {w : World} {p : Nat} {q : Option Addr} (h : Boxed w p 28 (.pointer q)) : Calls Try.prog 26 #[ptr p] w (RtRet q w) := by
  have c0 := h.cell
  clear h
  go_enter Try.func26, Try.ntmps26
  go_wp2_with fail
  go_ret
  exact ⟨rfl, rfl⟩
set_option maxRecDepth 20000 in
theorem n_tree (w : World) : Calls Try.prog 26 #[.pointer none] w (RtRet none w) := by
  go_enter Try.func26, Try.ntmps26
  go_wp2_with fail
  go_ret
  exact ⟨rfl, rfl⟩

def NewRet (w : World) (e : Ending) (w' : World) : Prop := ∃ p, e = .returned (ptr p) ∧ TbNew p [] w w'
set_option maxRecDepth 20000 in
theorem p_New (w : World) : Calls Try.prog 10 #[] w (NewRet w) := by
  go_enter Try.func10, Try.ntmps10
  go_wp2_with fail
  go_ret
  exact ⟨_, rfl, tb_zero w⟩
def PutRet (F : Nat → Prop) (p : Nat) (m : List Kv) (w : World) (e : Ending) (w' : World) : Prop := e = .returned (.tuple #[]) ∧ TbTo F p m w w'
set_option maxRecDepth 20000 in
set_option maxHeartbeats 1000000 in
theorem p_Put {w : World} {F : Nat → Prop} {p : Nat} {m : List Kv} (h : Tb w F p m) (hm : m.length ≤ 10000) (key v : List UInt8) :
    Calls Try.prog 13 #[ptr p, txt key, txt v] w (PutRet F p (Tbm.put m key v) w) := by
  have H := hid h
  obtain ⟨h1, h2, h3, q, T, rfl, h5, h6⟩ := h
  have c0 := h5.cell
  have H5 := hid h5
  have hp := hid (h2 p h1)
  have I := hid (p_with key v (fun b => (F b ∧ b ≠ p) ∨ w.heap.size ≤ b) T w q (fun b hb => .inr hb) (h6.mono fun b hb _ => .inl hb) h3 (by omega))
  unfold BalRet at I
  have Hsp := hid (Tbm.Srt.put h3 key v)
  clear h1 h2 h3 h5 h6 hm
  go_enter Try.func13, Try.ntmps13
  go_wp2_with fail
  refine (I.out).mono ?_
  rintro e w1 ⟨b2, T2, rfl, e2, t2, hb⟩
  have b1 : Boxed w1 p 28 (.pointer q) := (hb.block p hp.out).trans H5.out
  have d0 := b1.cell
  have f0 := b1.frozen
  have HT := hid (tb_to H.out hb Hsp.out e2 t2)
  clear b1 I e2 t2
  go_wp2_with fail
  go_end0
  exact ⟨rfl, HT.out⟩

def DelRet (F : Nat → Prop) (p : Nat) (m : List Kv) (b : Bool) (w : World) (e : Ending) (w' : World) : Prop := e = .returned (.bool b) ∧ TbTo F p m w w'
set_option maxRecDepth 20000 in
set_option maxHeartbeats 1000000 in
theorem p_Delete {w : World} {F : Nat → Prop} {p : Nat} {m : List Kv} (h : Tb w F p m) (hm : m.length ≤ 10000) (key : List UInt8) :
    Calls Try.prog 15 #[ptr p, txt key] w (DelRet F p (Tbm.del m key) (Tbm.get m key).isSome w) := by
  have H := hid h
  obtain ⟨h1, h2, h3, q, T, rfl, h5, h6⟩ := h
  have c0 := h5.cell
  have H5 := hid h5
  have hp := hid (h2 p h1)
  have R := hid (p_tree h5)
  unfold RtRet at R
  have FD := hid (p_find h6 h3 key)
  unfold FndRet at FD
  cases hg : Tbm.get T.flat key with
  | none =>
    have Hd : Hid (Tbm.del T.flat key = T.flat) := hid (del_of_none hg)
    rw [hg] at FD
    clear h1 h2 h3 h5 h6 hm hg
    go_enter Try.func15, Try.ntmps15
    go_wp2_with (first | (go_at_call 26; refine (R.out).mono ?_; rintro e w' ⟨rfl, rfl⟩))
    refine (FD.out).mono ?_
    rintro e w' ⟨q2, rfl, rfl, hq, _⟩
    have hq' := hq trivial
    subst hq'
    clear hq
    go_wp2_with fail
    go_ret
    exact ⟨rfl, by rw [Hd.out]; exact tb_same H.out (Below.refl _ _)⟩
  | some v =>
    rw [hg] at FD
    have I := hid (p_without (fun b => (F b ∧ b ≠ p) ∨ w.heap.size ≤ b) T w q key (fun b hb => .inr hb) (h6.mono fun b hb _ => .inl hb) h3 (by omega) (by rw [hg]; rfl))
    unfold WoRet at I
    have Hsp := hid (Tbm.Srt.del h3 key)
    clear h1 h2 h3 h5 h6 hm hg
    go_enter Try.func15, Try.ntmps15
    go_wp2_with (first | (go_at_call 26; refine (R.out).mono ?_; rintro e w' ⟨rfl, rfl⟩))
    refine (FD.out).mono ?_
    rintro e w' ⟨q2, rfl, rfl, _, hn⟩
    obtain ⟨b3, rfl, _⟩ := hn v rfl
    clear hn
    go_wp2_with fail
    refine (I.out).mono ?_
    rintro e w1 ⟨q3, T2, rfl, e2, t2, hb⟩
    have b1 : Boxed w1 p 28 (.pointer q) := (hb.block p hp.out).trans H5.out
    have d0 := b1.cell
    have f0 := b1.frozen
    have HT := hid (tb_to H.out hb Hsp.out e2 t2)
    clear b1 I e2 t2 c0
    go_wp2_with fail
    go_ret
    exact ⟨rfl, HT.out⟩
def GotRet (o : Option (List UInt8)) (w : World) (e : Ending) (w' : World) : Prop := e = .returned (.tuple #[txt (o.getD []), .bool o.isSome]) ∧ Below w.heap.size w w'
set_option maxRecDepth 20000 in
theorem p_Get {w : World} {F : Nat → Prop} {p : Nat} {m : List Kv} (h : Tb w F p m) (hm : m.length ≤ 10000) (key : List UInt8) :
    Calls Try.prog 11 #[ptr p, txt key] w (GotRet (Tbm.get m key) w) := by
  obtain ⟨h1, h2, h3, q, T, rfl, h5, h6⟩ := h
  have R := hid (p_tree h5)
  unfold RtRet at R
  have FD := hid (p_find h6 h3 key)
  unfold FndRet at FD
  generalize Tbm.get T.flat key = o at *
  clear h1 h2 h3 h5 h6 hm
  go_enter Try.func11, Try.ntmps11
  go_wp2_with (first | (go_at_call 26; refine (R.out).mono ?_; rintro e w' ⟨rfl, rfl⟩))
  refine (FD.out).mono ?_
  rintro e w' ⟨q2, rfl, rfl, hq, hn⟩
  cases o with
  | none =>
    have hq' := hq rfl
    subst hq'
    clear hq hn FD
    go_wp2_with fail
    go_ret2
    exact ⟨rfl, Below.refl _ _⟩
  | some v =>
    obtain ⟨b3, rfl, _, _, x1⟩ := hn v rfl
    clear hq hn FD
    go_wp2_with fail
    go_ret2
    exact ⟨rfl, Below.refl _ _⟩
def LenRet (n : Nat) (w : World) (e : Ending) (w' : World) : Prop := e = .returned (.int .i64 (n : Int)) ∧ Below w.heap.size w w'
set_option maxRecDepth 20000 in
theorem p_Len {w : World} {F : Nat → Prop} {p : Nat} {m : List Kv} (h : Tb w F p m) (hm : m.length ≤ 10000) :
    Calls Try.prog 17 #[ptr p] w (LenRet m.length w) := by
  obtain ⟨h1, h2, h3, q, T, rfl, h5, h6⟩ := h
  have R := hid (p_tree h5)
  unfold RtRet at R
  have SZ := hid (p_size h6)
  unfold SzRet at SZ
  generalize T.flat.length = n at *
  clear h1 h2 h3 h5 h6 hm
  go_enter Try.func17, Try.ntmps17
  go_wp2_with (first | (go_at_call 26; refine (R.out).mono ?_; rintro e w' ⟨rfl, rfl⟩))
  refine (SZ.out).mono ?_
  rintro e w' ⟨rfl, rfl⟩
  go_wp2_with fail
  go_ret
  exact ⟨rfl, Below.refl _ _⟩
/-- the i-th key -/
def keyAt (m : List Kv) (i : Int) : Option (List UInt8) := if 0 ≤ i then (m[i.toNat]?).map (·.1) else none
theorem keyAt_nth (m : List Kv) (i : Int) : keyAt m i = (Tbm.nth m i).map (·.1) := by
  unfold keyAt Tbm.nth
  split <;> rfl
set_option maxRecDepth 20000 in
theorem p_Key {w : World} {F : Nat → Prop} {p : Nat} {m : List Kv} (h : Tb w F p m) (hm : m.length ≤ 10000) (i : Int) (hi : I64 i) :
    Calls Try.prog 21 #[ptr p, .int .i64 i] w (GotRet (keyAt m i) w) := by
  rw [keyAt_nth]
  obtain ⟨h1, h2, h3, q, T, rfl, h5, h6⟩ := h
  have R := hid (p_tree h5)
  unfold RtRet at R
  have FD := hid (p_pick h6 (by omega) i hi)
  unfold PckRet at FD
  generalize Tbm.nth T.flat i = o at *
  clear h1 h2 h3 h5 h6 hm hi
  go_enter Try.func21, Try.ntmps21
  go_wp2_with (first | (go_at_call 26; refine (R.out).mono ?_; rintro e w' ⟨rfl, rfl⟩))
  refine (FD.out).mono ?_
  rintro e w' ⟨q2, rfl, rfl, hq, hn⟩
  cases o with
  | none =>
    have hq' := hq rfl
    subst hq'
    clear hq hn FD
    go_wp2_with fail
    go_ret2
    exact ⟨rfl, Below.refl _ _⟩
  | some v =>
    obtain ⟨b3, rfl, _, x0, _⟩ := hn v rfl
    clear hq hn FD
    go_wp2_with fail
    go_ret2
    exact ⟨rfl, Below.refl _ _⟩
/-- a copy shares the tree, not the block -/
def CopyRet (F : Nat → Prop) (p : Nat) (m : List Kv) (w : World) (e : Ending) (w' : World) : Prop := ∃ p', e = .returned (ptr p') ∧ w.heap.size ≤ p' ∧ (∃ F', Tb w' F' p' m ∧ ∀ k, F' k → (F k ∧ k ≠ p) ∨ w.heap.size ≤ k) ∧ Below w.heap.size w w'
theorem CopyRet.mk {F : Nat → Prop} {p : Nat} {m : List Kv} {w : World} {q : Option Addr} {T : Tr} (h : Tb w F p m) (hm : T.flat = m) (ht : IsTr (fun b => F b ∧ b ≠ p) w q T) : CopyRet F p m w (.returned (ptr w.heap.size)) (w.alloc (.cells #[.pointer q] 28)) := by
  have hb := (Below.refl w.heap.size w).alloc (Nat.le_refl _) (.cells #[.pointer q] 28)
  refine ⟨_, rfl, Nat.le_refl _, ⟨fun k => (F k ∧ k ≠ p) ∨ k = w.heap.size, ⟨.inr rfl, fun b hb => ?_, h.srt, q, T, hm, Boxed.new _ _ _, ?_⟩, fun k hk => hk.imp id (fun e => by omega)⟩, hb⟩
  · rw [World.size_alloc]
    rcases hb with hb | rfl
    · have := h.lt b hb.1; omega
    · omega
  · exact (ht.below hb).mono fun b hb _ => ⟨.inl hb, fun e => by have := h.lt b hb.1; omega⟩
set_option maxRecDepth 20000 in
theorem p_Copy {w : World} {F : Nat → Prop} {p : Nat} {m : List Kv} (h : Tb w F p m) (hm : m.length ≤ 10000) :
    Calls Try.prog 24 #[ptr p] w (CopyRet F p m w) := by
  have H := hid h
  obtain ⟨h1, h2, h3, q, T, hT, h5, h6⟩ := h
  have c0 := h5.cell
  have H6 := hid h6
  have HT := hid hT
  clear h1 h2 h3 h5 h6 hm hT
  go_enter Try.func24, Try.ntmps24
  go_wp2_with fail
  go_ret
  exact CopyRet.mk H.out HT.out H6.out
/-! ### a nil table -/
theorem n_find (key : List UInt8) (w : World) : Calls Try.prog 25 #[.pointer none, txt key] w (FndRet none key w) := p_find (G := fun _ => True) (T := .leaf) rfl Tbm.srt_nil key
theorem n_pick (i : Int) (hi : I64 i) (w : World) : Calls Try.prog 30 #[.pointer none, .int .i64 i] w (PckRet none w) := by
  have := p_pick (G := fun _ => True) (w := w) (q := none) (T := .leaf) rfl (by simp [Tbm.Tr.flat]) i hi
  rwa [show Tbm.nth (Tr.leaf).flat i = none from Tbm.nth_nil i] at this
theorem n_size (w : World) : Calls Try.prog 29 #[.pointer none] w (SzRet 0 w) := p_size (G := fun _ => True) (w := w) (q := none) (T := .leaf) rfl
set_option maxRecDepth 20000 in
theorem n_Put (key v : List UInt8) (w : World) : Calls Try.prog 13 #[.pointer none, txt key, txt v] w fun e w' => e = .returned (.tuple #[]) ∧ Below w.heap.size w w' := by
  go_enter Try.func13, Try.ntmps13
  go_wp2_with fail
  go_end0
  exact ⟨rfl, Below.refl _ _⟩
set_option maxRecDepth 20000 in
theorem n_Get (key : List UInt8) (w : World) : Calls Try.prog 11 #[.pointer none, txt key] w fun e w' => e = .returned (.tuple #[txt [], .bool false]) ∧ Below w.heap.size w w' := by
  have R := hid (n_tree w)
  unfold RtRet at R
  have C := hid (n_find key w)
  unfold FndRet at C
  go_enter Try.func11, Try.ntmps11
  go_wp2_with (first | (go_at_call 26; refine (R.out).mono ?_; rintro e w' ⟨rfl, rfl⟩))
  refine (C.out).mono ?_
  rintro e w' ⟨q2, rfl, rfl, hq, _⟩
  have hq' := hq trivial
  subst hq'
  clear hq
  go_wp2_with fail
  go_ret2
  exact ⟨rfl, Below.refl _ _⟩
set_option maxRecDepth 20000 in
theorem n_Key (i : Int) (hi : I64 i) (w : World) : Calls Try.prog 21 #[.pointer none, .int .i64 i] w fun e w' => e = .returned (.tuple #[txt [], .bool false]) ∧ Below w.heap.size w w' := by
  have R := hid (n_tree w)
  unfold RtRet at R
  have C := hid (n_pick i hi w)
  unfold PckRet at C
  clear hi
  go_enter Try.func21, Try.ntmps21
  go_wp2_with (first | (go_at_call 26; refine (R.out).mono ?_; rintro e w' ⟨rfl, rfl⟩))
  refine (C.out).mono ?_
  rintro e w' ⟨q2, rfl, rfl, hq, _⟩
  have hq' := hq trivial
  subst hq'
  clear hq
  go_wp2_with fail
  go_ret2
  exact ⟨rfl, Below.refl _ _⟩
set_option maxRecDepth 20000 in
theorem n_Delete (key : List UInt8) (w : World) : Calls Try.prog 15 #[.pointer none, txt key] w fun e w' => e = .returned (.bool false) ∧ Below w.heap.size w w' := by
  have R := hid (n_tree w)
  unfold RtRet at R
  have C := hid (n_find key w)
  unfold FndRet at C
  go_enter Try.func15, Try.ntmps15
  go_wp2_with (first | (go_at_call 26; refine (R.out).mono ?_; rintro e w' ⟨rfl, rfl⟩))
  refine (C.out).mono ?_
  rintro e w' ⟨q2, rfl, rfl, hq, _⟩
  have hq' := hq trivial
  subst hq'
  clear hq
  go_wp2_with fail
  go_ret
  exact ⟨rfl, Below.refl _ _⟩
set_option maxRecDepth 20000 in
theorem n_Len (w : World) : Calls Try.prog 17 #[.pointer none] w fun e w' => e = .returned (.int .i64 0) ∧ Below w.heap.size w w' := by
  have R := hid (n_tree w)
  unfold RtRet at R
  have C := hid (n_size w)
  unfold SzRet at C
  go_enter Try.func17, Try.ntmps17
  go_wp2_with (first | (go_at_call 26; refine (R.out).mono ?_; rintro e w' ⟨rfl, rfl⟩))
  refine (C.out).mono ?_
  rintro e w' ⟨rfl, rfl⟩
  go_wp2_with fail
  go_ret
  exact ⟨rfl, Below.refl _ _⟩
set_option maxRecDepth 20000 in
theorem n_Copy (w : World) : Calls Try.prog 24 #[.pointer none] w fun e w' => e = .returned (.pointer none) ∧ Below w.heap.size w w' := by
  go_enter Try.func24, Try.ntmps24
  go_wp2_with fail
  go_ret
  exact ⟨rfl, Below.refl _ _⟩
end Go.Proofs.Ytbkabjnklipmjaa
