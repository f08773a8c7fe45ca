/- What the laws of layer 6 share: heads. -/
import Derived.Test.YtbkabjnklipmjaaTrE
namespace Go.Proofs.Ytbkabjnklipmjaa
open Go.RowKit Go.Shelf
open Tbm (Kv)

theorem TbTo.ne {F : Nat → Prop} {p : Nat} {m : List Kv} {w w' : World} (h : TbTo F p m w w') {k : Nat} (hk : k < w.heap.size) (hF : ¬ F k) : k ≠ p := by
  obtain ⟨⟨F', h1, h2⟩, _⟩ := h
  rintro rfl
  rcases h2 _ h1.self with h | h
  · exact hF h
  · omega
theorem TbTo.block {F : Nat → Prop} {p : Nat} {m : List Kv} {w w' : World} (h : TbTo F p m w w') {k : Nat} (hk : k < w.heap.size) (hF : ¬ F k) : w'.heap[k]? = w.heap[k]? := h.2.block k hk (h.ne hk hF)
theorem TbTo.below {F : Nat → Prop} {p : Nat} {m : List Kv} {w w' : World} (h : TbTo F p m w w') {n₀ : Nat} (hF : ∀ k, F k → n₀ ≤ k) (hn : n₀ ≤ w.heap.size) : Below n₀ w w' ∧ ∃ F', Tb w' F' p m ∧ ∀ k, F' k → n₀ ≤ k := by
  obtain ⟨⟨F', h1, h2⟩, hk⟩ := h
  exact ⟨hk.below (fun k e => by subst e; rcases h2 _ h1.self with h | h; exact hF _ h; omega) hn, F', h1, fun k hk => by rcases h2 k hk with h | h; exact hF k h; omega⟩
theorem Tb.below {w w' : World} {F : Nat → Prop} {p : Nat} {m : List Kv} (h : Tb w F p m) (hb : Below w.heap.size w w') : Tb w' F p m := h.keep fun k hk => hb.block k (h.lt k hk)
/-- a table of the call's own, whose blocks lie from n₀ on -/
def TbO (n₀ : Nat) (w : World) (p : Nat) (m : List Kv) : Prop := ∃ F, Tb w F p m ∧ ∀ k, F k → n₀ ≤ k
theorem TbO.below {n₀ : Nat} {w w' : World} {p : Nat} {m : List Kv} (h : TbO n₀ w p m) (hb : Below w.heap.size w w') : TbO n₀ w' p m := by
  obtain ⟨F, h1, h2⟩ := h
  exact ⟨F, h1.below hb, h2⟩
theorem TbO.srt {n₀ : Nat} {w : World} {p : Nat} {m : List Kv} (h : TbO n₀ w p m) : Tbm.Srt m := by
  obtain ⟨F, h1, _⟩ := h
  exact h1.srt
/-! ### the calls, over a table of the call's own -/
theorem o_New (w : World) : Calls Try.prog 10 #[] w fun e w' => ∃ p, e = .returned (ptr p) ∧ TbO w.heap.size w' p [] ∧ Below w.heap.size w w' :=
  (p_New w).mono fun _ _ ⟨p, h1, ⟨F, h2, h3⟩, h4⟩ => ⟨p, h1, ⟨F, h2, h3⟩, h4⟩
theorem o_Put {n₀ : Nat} {w : World} {p : Nat} {m : List Kv} (h : TbO n₀ w p m) (hn : n₀ ≤ w.heap.size) (hm : m.length ≤ 10000) (key v : List UInt8) :
    Calls Try.prog 13 #[ptr p, txt key, txt v] w fun e w' => e = .returned (.tuple #[]) ∧ TbO n₀ w' p (Tbm.put m key v) ∧ Below n₀ w w' := by
  obtain ⟨F, h1, h2⟩ := h
  refine (p_Put h1 hm key v).mono ?_
  rintro e w' ⟨he, ht⟩
  obtain ⟨hb, F', h3, h4⟩ := ht.below h2 hn
  exact ⟨he, ⟨F', h3, h4⟩, hb⟩
theorem o_Delete {n₀ : Nat} {w : World} {p : Nat} {m : List Kv} (h : TbO n₀ w p m) (hn : n₀ ≤ w.heap.size) (hm : m.length ≤ 10000) (key : List UInt8) :
    Calls Try.prog 15 #[ptr p, txt key] w fun e w' => e = .returned (.bool (Tbm.get m key).isSome) ∧ TbO n₀ w' p (Tbm.del m key) ∧ Below n₀ w w' := by
  obtain ⟨F, h1, h2⟩ := h
  refine (p_Delete h1 hm key).mono ?_
  rintro e w' ⟨he, ht⟩
  obtain ⟨hb, F', h3, h4⟩ := ht.below h2 hn
  exact ⟨he, ⟨F', h3, h4⟩, hb⟩
theorem o_Get {n₀ : Nat} {w : World} {p : Nat} {m : List Kv} (h : TbO n₀ w p m) (hm : m.length ≤ 10000) (key : List UInt8) :
    Calls Try.prog 11 #[ptr p, txt key] w (GotRet (Tbm.get m key) w) := by
  obtain ⟨F, h1, _⟩ := h
  exact p_Get h1 hm key
theorem o_Len {n₀ : Nat} {w : World} {p : Nat} {m : List Kv} (h : TbO n₀ w p m) (hm : m.length ≤ 10000) :
    Calls Try.prog 17 #[ptr p] w (LenRet m.length w) := by
  obtain ⟨F, h1, _⟩ := h
  exact p_Len h1 hm
theorem o_Key {n₀ : Nat} {w : World} {p : Nat} {m : List Kv} (h : TbO n₀ w p m) (hm : m.length ≤ 10000) (i : Int) (hi : I64 i) :
    Calls Try.prog 21 #[ptr p, .int .i64 i] w (GotRet (keyAt m i) w) := by
  obtain ⟨F, h1, _⟩ := h
  exact p_Key h1 hm i hi

theorem map_ba : Tbm.put (Tbm.put [] [98] [49]) [97] [50] = [([97], [50]), ([98], [49])] := by decide +kernel
theorem get_ba : Tbm.get [([97], [50]), ([98], [49])] [98] = some [49] := by decide +kernel

set_option maxRecDepth 20000 in
set_option maxHeartbeats 2000000 in
theorem heads (w : World) : Calls Try.prog 9 #[] w fun e w' => e = .returned (.bool true) ∧ Below w.heap.size w w' := by
  go_enter Try.func9, Try.ntmps9
  go_wp2_with fail
  refine (o_New w).mono ?_
  rintro e w1 ⟨p, rfl, t1, b1⟩
  have C1 := hid (o_Put t1 b1.size (by simp) [98] [49])
  clear t1
  go_wp2_with fail
  refine (C1.out).mono ?_
  rintro e w2 ⟨rfl, t2, b2⟩
  have b12 := b1.trans b2
  have C2 := hid (o_Put t2 b12.size (by simp [Tbm.put]) [97] [50])
  clear t2
  go_wp2_with fail
  refine (C2.out).mono ?_
  rintro e w3 ⟨rfl, t3, b3⟩
  have b13 := b12.trans b3
  rw [map_ba] at t3
  have C3 := hid (o_Key t3 (by simp) 0 (by simp [I64]))
  rw [show keyAt [([97], [50]), ([98], [49])] 0 = some [97] from rfl] at C3
  unfold GotRet at C3
  have T3 := hid t3
  clear t3
  go_wp2_with fail
  refine (C3.out).mono ?_
  rintro e w4 ⟨rfl, b4⟩
  have t4 := T3.out.below b4
  have b14 := below2 b13 b4
  have C4 := hid (o_Get t4 (by simp) [98])
  rw [get_ba] at C4
  unfold GotRet at C4
  have T4 := hid t4
  clear t4
  go_wp2_with fail
  refine (C4.out).mono ?_
  rintro e w5 ⟨rfl, b5⟩
  have b15 := below2 b14 b5
  have C5 := hid (o_Len (T4.out.below b5) (by simp))
  unfold LenRet at C5
  have e1 : ((bs [97]).toList == [97]) = true := by rw [toList_bs]; rfl
  have e2 : ((bs [49]).toList == [49]) = true := by rw [toList_bs]; rfl
  go_wp2_with fail
  refine (C5.out).mono ?_
  rintro e w6 ⟨rfl, b6⟩
  go_wp2_with fail
  go_ret
  exact ⟨rfl, below2 b15 b6⟩
end Go.Proofs.Ytbkabjnklipmjaa
