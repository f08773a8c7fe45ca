/- What the laws of layer 7 share: piles of the call's own, a row beside one; heads, popped. -/
import Derived.Test.YtojballaghkojaaPilP
namespace Go.Proofs.Ytojballaghkojaa
open Go.RowKit Go.Shelf
open Pil (It)

theorem PlTo.below {F : Nat → Prop} {p : Nat} {s : List It} {w w' : World} (h : PlTo F p s w w') {n₀ : Nat} (hF : ∀ k, F k → n₀ ≤ k) (hn : n₀ ≤ w.heap.size) : Below n₀ w w' ∧ ∃ F', Pl w' F' p s ∧ ∀ k, F' k → n₀ ≤ k := by
  obtain ⟨⟨F', h1, h2⟩, hk⟩ := h
  exact ⟨hk.below hF hn, F', h1, fun k hk => by rcases h2 k hk with h | h; exact hF k h; omega⟩
theorem Pl.below {w w' : World} {F : Nat → Prop} {p : Nat} {s : List It} (h : Pl w F p s) (hb : Below w.heap.size w w') : Pl w' F p s := h.keep fun k hk => hb.block k (h.lt k hk)
/-- a pile of the call's own, whose blocks lie from n₀ on -/
def PlO (n₀ : Nat) (w : World) (p : Nat) (s : List It) : Prop := ∃ F, Pl w F p s ∧ ∀ k, F k → n₀ ≤ k
theorem PlO.below {n₀ : Nat} {w w' : World} {p : Nat} {s : List It} (h : PlO n₀ w p s) (hb : Below w.heap.size w w') : PlO n₀ w' p s := by
  obtain ⟨F, h1, h2⟩ := h
  exact ⟨F, h1.below hb, h2⟩
theorem PlO.srt {n₀ : Nat} {w : World} {p : Nat} {s : List It} (h : PlO n₀ w p s) : Pil.Srt s := by
  obtain ⟨F, h1, _⟩ := h
  exact h1.srt
theorem PlO.i64 {n₀ : Nat} {w : World} {p : Nat} {s : List It} (h : PlO n₀ w p s) : ∀ x ∈ s, I64 x.1 ∧ I64 x.2 := by
  obtain ⟨F, h1, _⟩ := h
  exact h1.i64
theorem o_New (w : World) : Calls Try.prog 9 #[] w fun e w' => ∃ p, e = .returned (ptr p) ∧ PlO w.heap.size w' p [] ∧ Below w.heap.size w w' :=
  (p_New w).mono fun _ _ ⟨p, h1, ⟨F, h2, h3⟩, h4⟩ => ⟨p, h1, ⟨F, h2, h3⟩, h4⟩
def OwnDid (n₀ p : Nat) (s : List It) (b : Bool) (w : World) (e : Ending) (w' : World) : Prop := e = .returned (.bool b) ∧ PlO n₀ w' p s ∧ Below n₀ w w'
theorem DidRet.own {n₀ : Nat} {F : Nat → Prop} {p : Nat} {s : List It} {b : Bool} {w w' : World} {e : Ending} (h : DidRet F p s b w e w') (hF : ∀ k, F k → n₀ ≤ k) (hn : n₀ ≤ w.heap.size) : OwnDid n₀ p s b w e w' := by
  obtain ⟨he, ht⟩ := h
  obtain ⟨hb, F', h3, h4⟩ := ht.below hF hn
  exact ⟨he, ⟨F', h3, h4⟩, hb⟩
section
variable {n₀ : Nat} {w : World} {p : Nat} {s : List It} (h : PlO n₀ w p s) (hn : n₀ ≤ w.heap.size) (hm : s.length ≤ 10000)
include h hn hm
theorem o_Push (key rank : Int) (hk : I64 key) (hr : I64 rank) : Calls Try.prog 13 #[ptr p, .int .i64 key, .int .i64 rank] w (OwnDid n₀ p (Pil.push s (key, rank)) (!(Pil.get s key).isSome) w) := by
  obtain ⟨F, h1, h2⟩ := h
  exact (p_Push h1 hm key rank hk hr).mono fun e w' hd => hd.own h2 hn
theorem o_Move (key rank : Int) (hk : I64 key) (hr : I64 rank) : Calls Try.prog 15 #[ptr p, .int .i64 key, .int .i64 rank] w (OwnDid n₀ p (Pil.move s (key, rank)) (Pil.get s key).isSome w) := by
  obtain ⟨F, h1, h2⟩ := h
  exact (p_Move h1 hm key rank hk hr).mono fun e w' hd => hd.own h2 hn
theorem o_Drop (key : Int) (hk : I64 key) : Calls Try.prog 16 #[ptr p, .int .i64 key] w (OwnDid n₀ p (Pil.del s key) (Pil.get s key).isSome w) := by
  obtain ⟨F, h1, h2⟩ := h
  exact (p_Drop h1 hm key hk).mono fun e w' hd => hd.own h2 hn
theorem o_Pop : Calls Try.prog 21 #[ptr p] w fun e w' => e = .returned (topV s) ∧ PlO n₀ w' p s.tail ∧ Below n₀ w w' := by
  obtain ⟨F, h1, h2⟩ := h
  refine (p_Pop h1 hm).mono ?_
  rintro e w' ⟨he, ht⟩
  obtain ⟨hb, F', h3, h4⟩ := ht.below h2 hn
  exact ⟨he, ⟨F', h3, h4⟩, hb⟩
end
theorem o_Rank {n₀ : Nat} {w : World} {p : Nat} {s : List It} (h : PlO n₀ w p s) (hm : s.length ≤ 10000) (key : Int) (hk : I64 key) : Calls Try.prog 11 #[ptr p, .int .i64 key] w (RkRet (Pil.get s key) w) := by
  obtain ⟨F, h1, _⟩ := h
  exact p_Rank h1 hm key hk
theorem o_Len {n₀ : Nat} {w : World} {p : Nat} {s : List It} (h : PlO n₀ w p s) (hm : s.length ≤ 10000) : Calls Try.prog 20 #[ptr p] w (LnRet s.length w) := by
  obtain ⟨F, h1, _⟩ := h
  exact p_Len h1 hm

theorem heads_s : Pil.push (Pil.push (Pil.push [] (5, 1)) (4, 1)) (9, 0) = [(9, 0), (4, 1), (5, 1)] := by decide +kernel
theorem i64_small {i : Int} (h : -1000 ≤ i) (h2 : i ≤ 1000) : I64 i := by unfold I64; omega
set_option maxRecDepth 20000 in
set_option maxHeartbeats 4000000 in
theorem heads (w : World) : Calls Try.prog 8 #[] w fun e w' => e = .returned (.bool true) ∧ Below w.heap.size w w' := by
  go_enter Try.func8, Try.ntmps8
  go_wp2_with fail
  refine (o_New w).mono ?_
  rintro e w1 ⟨p, rfl, t1, b1⟩
  have C1 := hid (o_Push t1 b1.size (by simp) 5 1 (i64_small (by decide) (by decide)) (i64_small (by decide) (by decide)))
  rw [show (!(Pil.get [] 5).isSome) = true from rfl] at C1
  unfold OwnDid at C1
  clear t1
  go_wp2_with fail
  refine (C1.out).mono ?_
  rintro e w2 ⟨rfl, t2, b2⟩
  have b12 := b1.trans b2
  have C2 := hid (o_Push t2 b12.size (by decide +kernel) 4 1 (i64_small (by decide) (by decide)) (i64_small (by decide) (by decide)))
  rw [show (!(Pil.get (Pil.push [] (5, 1)) 4).isSome) = true from by decide +kernel] at C2
  unfold OwnDid at C2
  clear t2 C1
  go_wp2_with fail
  refine (C2.out).mono ?_
  rintro e w3 ⟨rfl, t3, b3⟩
  have b13 := b12.trans b3
  have C3 := hid (o_Push t3 b13.size (by decide +kernel) 9 0 (i64_small (by decide) (by decide)) (i64_small (by decide) (by decide)))
  rw [show (!(Pil.get (Pil.push (Pil.push [] (5, 1)) (4, 1)) 9).isSome) = true from by decide +kernel, heads_s] at C3
  unfold OwnDid at C3
  clear t3 C2
  go_wp2_with fail
  refine (C3.out).mono ?_
  rintro e w4 ⟨rfl, t4, b4⟩
  have b14 := b13.trans b4
  have C4 := hid (o_Pop t4 b14.size (by simp))
  rw [show topV [(9, 0), (4, 1), (5, 1)] = .tuple #[.int .i64 9, .int .i64 0, .bool true] from rfl, show List.tail [((9 : Int), (0 : Int)), (4, 1), (5, 1)] = [(4, 1), (5, 1)] from rfl] at C4
  clear t4 C3
  go_wp2_with fail
  refine (C4.out).mono ?_
  rintro e w5 ⟨rfl, t5, b5⟩
  have b15 := b14.trans b5
  have C5 := hid (o_Pop t5 b15.size (by simp))
  rw [show topV [(4, 1), (5, 1)] = .tuple #[.int .i64 4, .int .i64 1, .bool true] from rfl, show List.tail [((4 : Int), (1 : Int)), (5, 1)] = [(5, 1)] from rfl] at C5
  clear t5 C4
  go_wp2_with fail
  refine (C5.out).mono ?_
  rintro e w6 ⟨rfl, t6, b6⟩
  have b16 := b15.trans b6
  have C6 := hid (o_Len t6 (by simp))
  unfold LnRet at C6
  have T6 := hid t6
  clear t6 C5
  go_wp2_with fail
  refine (C6.out).mono ?_
  rintro e w7 ⟨rfl, b7⟩
  have b17 := below2 b16 b7
  have C7 := hid (o_Push (T6.out.below b7) b17.size (by simp) 5 0 (i64_small (by decide) (by decide)) (i64_small (by decide) (by decide)))
  rw [show (!(Pil.get [(5, 1)] 5).isSome) = false from by decide +kernel] at C7
  unfold OwnDid at C7
  clear C6
  go_wp2_with fail
  refine (C7.out).mono ?_
  rintro e w8 ⟨rfl, t8, b8⟩
  go_wp2_with fail
  go_ret
  exact ⟨rfl, b17.trans b8⟩
end Go.Proofs.Ytojballaghkojaa
