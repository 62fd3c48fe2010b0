import Derived.Test.YtofoilmepddmaabOctetA
import Derived.Test.YtofoilmepddmaabRound
import Derived.Deep.DrawnRows
namespace Go.Proofs.Ytofoilmepddmaab
open Go.RowKit
set_option maxHeartbeats 1000000
/-- Two writers apart. -/
structure Two (B : Nat) (w : World) (p : Nat) (va : Value) (la : List Int) (q : Nat) (vb : Value) (lb : List Int) : Prop where
  one : Wr w p va la
  two : Wr w q vb lb
  ne : p ≠ q
  lop : B ≤ p
  loq : B ≤ q
  loa : ∀ x, va.ownBlock = some x → B ≤ x
  lob : ∀ x, vb.ownBlock = some x → B ≤ x
  aq : va.ownBlock ≠ some q
  bp : vb.ownBlock ≠ some p
  ab : ∀ x, va.ownBlock = some x → vb.ownBlock ≠ some x
theorem Two.wrote {B : Nat} {w w' : World} {p q : Nat} {va vb : Value} {la lb lb' : List Int} (h : Two B w p va la q vb lb) (hB : B ≤ w.heap.size) (hw : Wrote w q vb lb' w') :
    ∃ vb', Two B w' p va la q vb' lb' ∧ Below B w w' := by
  obtain ⟨v', h1, h2, h3⟩ := hw
  refine ⟨v', ⟨h.one.keeps h2 ?_ ?_, h1, h.ne, h.lop, h.loq, h.loa, ?_, h.aq, ?_, ?_⟩, h2.below hB ?_⟩
  · rintro (e | e)
    · exact h.ne e
    · exact h.bp e
  · rintro k hk (e | e)
    · subst e; exact h.aq hk
    · exact h.ab k hk e
  · intro x hx
    rcases h3 x hx with e | e
    · exact h.lob x e
    · omega
  · intro e
    rcases h3 _ e with e | e
    · exact h.bp e
    · have := h.one.lt; omega
  · intro x hx e
    rcases h3 _ e with e | e
    · exact h.ab x hx e
    · have := h.one.row_lt x hx; omega
  · rintro x (e | e)
    · rw [e]; exact h.loq
    · exact h.lob x e
theorem Two.swap {B : Nat} {w : World} {p q : Nat} {va vb : Value} {la lb : List Int} (h : Two B w p va la q vb lb) : Two B w q vb lb p va la :=
  ⟨h.two, h.one, h.ne.symm, h.loq, h.lop, h.lob, h.loa, h.bp, h.aq, fun x hx e => h.ab x e hx⟩
theorem Two.below {B : Nat} {w w' : World} {p q : Nat} {va vb : Value} {la lb : List Int} (h : Two B w p va la q vb lb) (hb : Below w.heap.size w w') : Two B w' p va la q vb lb :=
  have hk : Keeps (fun _ => False) w w' := ⟨hb.os, hb.tape, hb.output, hb.size, fun k hk _ => hb.block k hk⟩
  ⟨h.one.keeps hk id (fun _ _ => id), h.two.keeps hk id (fun _ _ => id), h.ne, h.lop, h.loq, h.loa, h.lob, h.aq, h.bp, h.ab⟩
theorem two_new (w : World) : Two w.heap.size ((w.alloc (.cells #[.slice none 0 0] 59)).alloc (.cells #[.slice none 0 0] 59)) w.heap.size (.slice none 0 0) [] (w.heap.size + 1) (.slice none 0 0) [] :=
  ⟨(wr_new w).keeps (keeps_new _ _) id (fun _ _ => id), by have := wr_new (w.alloc (.cells #[.slice none 0 0] 59)); rwa [Deep.nblk_alloc] at this, by omega, by omega, by omega, by intro x e; simp [Value.ownBlock] at e, by intro x e; simp [Value.ownBlock] at e, by simp [Value.ownBlock], by simp [Value.ownBlock], by intro x e; simp [Value.ownBlock] at e⟩
theorem bytes_at (b : Nat) (v : Value) (l : List Int) (w : World) (h : Wr w b v l) (n : Nat) (hn : l.length = n) (h0 : 0 < n) (hl : n ≤ 140737488355328) :
    Calls Try.prog 42 #[.pointer (some ⟨b, 0, none⟩)] w fun e w' => ∃ g cap, e = .returned (.slice (some ⟨g, 0, none⟩) n cap) ∧ Holds w' (.slice (some ⟨g, 0, none⟩) n cap) (kv .u8 l) ∧ Below w.heap.size w w' := by
  subst hn
  refine (bytes_any b v l w h hl).mono ?_
  rintro e w' ⟨v', rfl, h1, h2⟩
  obtain ⟨g, cap, rfl, _⟩ := h1.form (by rw [kv_len]; exact h0)
  rw [kv_len] at h1 ⊢
  exact ⟨g, cap, rfl, holds_own (by simpa using h1), h2⟩
theorem halves_list (n : BitVec 64) (x y z u : Int) (hx : x = N n / 4294967296 % 4294967296) (hy : y = N n / 65536 % 65536) (hz : z = N n / 256 % 256) (hu : u = N n % 256) :
    [] ++ putBytes (BitVec.ofInt 64 x) 4 ++ putBytes (BitVec.ofInt 64 y) 2 ++ putBytes (BitVec.ofInt 64 z) 1 ++ putBytes (BitVec.ofInt 64 u) 1 = [] ++ putBytes n 8 := by
  have h0 := N_lo n
  have h1 := N_hi n
  have e := fun (a : BitVec 64) (k : Nat) => bv_shr a k
  simp only [putBytes, ← e, List.nil_append, List.cons_append]
  rw [N_of x (by omega) (by omega), N_of y (by omega) (by omega), N_of z (by omega) (by omega), N_of u (by omega) (by omega)]
  subst hx hy hz hu
  simp only [Nat.reduceMul, Nat.reducePow, List.cons.injEq, and_true]
  refine ⟨?_, ?_, ?_, ?_, ?_, ?_, ?_, ?_⟩ <;> omega
attribute [local go_sem ↓] Go.wp_at_zero Go.wp_at_succ
set_option maxHeartbeats 8000000 in
theorem octetHalves_any (n : BitVec 64) (w : World) : Calls Try.prog 12 #[u64 n] w fun e w' => e = .returned (.bool true) ∧ Below w.heap.size w w' := by
  obtain ⟨wo, rfl⟩ : ∃ wo : World, wo = w := ⟨_, rfl⟩
  have h1 := two_new wo
  have hb1 : Below wo.heap.size wo ((wo.alloc (.cells #[.slice none 0 0] 59)).alloc (.cells #[.slice none 0 0] 59)) := ((Below.refl _ _).alloc (Nat.le_refl _) _).alloc (by rw [Deep.nblk_alloc]; omega) _
  obtain ⟨w1, hw1⟩ : ∃ w1, w1 = ((wo.alloc (.cells #[.slice none 0 0] 59)).alloc (.cells #[.slice none 0 0] 59)) := ⟨_, rfl⟩
  rw [← hw1] at h1 hb1
  have H1 := Lib.hid h1
  have HB1 := Lib.hid hb1
  have HW1 := Lib.hid hw1
  clear h1 hb1 hw1
  have n0 := N_lo n
  have n1 := N_hi n
  have e16 : bits .and .u64 (N n / 65536) 65535 = N n / 65536 % 65536 := by rw [show (65536 : Int) = ((2 ^ 16 : Nat) : Int) from rfl, bv_shr]; exact bv_low' _ 16 (by decide)
  have e8 : bits .and .u64 (N n / 256) 255 = N n / 256 % 256 := by rw [show (256 : Int) = ((2 ^ 8 : Nat) : Int) from rfl, bv_shr]; exact bv_low' _ 8 (by decide)
  have e1 : bits .and .u64 (N n) 255 = N n % 256 := bv_low' _ 8 (by decide)
  go_enter Try.func12, Try.ntmps12
  go_wp2_with fail
  refine (u64_any _ _ _ n (by decide) _ (HW1.out ▸ H1.out.swap.two)).mono ?_
  rintro e w2 ⟨rfl, hw2⟩
  rw [← HW1.out] at hw2
  obtain ⟨va, h2, hb2⟩ := H1.out.swap.wrote HB1.out.size hw2
  have H2 := Lib.hid h2.swap
  have HB2 := Lib.hid (HB1.out.trans hb2)
  clear hw2 h2 hb2
  go_wp2_with fail
  refine (u32_any _ _ _ _ (by decide) _ H2.out.two).mono ?_
  rintro e w3 ⟨rfl, hw3⟩
  obtain ⟨vb3, h3, hb3⟩ := H2.out.wrote HB2.out.size hw3
  have H3 := Lib.hid h3
  have HB3 := Lib.hid (HB2.out.trans hb3)
  clear hw3 h3 hb3
  go_wp2_with fail
  refine (u16_any _ _ _ _ (by simp [putBytes_len]) _ H3.out.two).mono ?_
  rintro e w4 ⟨rfl, hw4⟩
  obtain ⟨vb4, h4, hb4⟩ := H3.out.wrote HB3.out.size hw4
  have H4 := Lib.hid h4
  have HB4 := Lib.hid (HB3.out.trans hb4)
  clear hw4 h4 hb4
  go_wp2_with fail
  refine (u8_any _ _ _ _ (by simp [putBytes_len]) _ H4.out.two).mono ?_
  rintro e w5 ⟨rfl, hw5⟩
  obtain ⟨vb5, h5, hb5⟩ := H4.out.wrote HB4.out.size hw5
  have H5 := Lib.hid h5
  have HB5 := Lib.hid (HB4.out.trans hb5)
  clear hw5 h5 hb5
  go_wp2_with fail
  refine (u8_any _ _ _ _ (by simp [putBytes_len]) _ H5.out.two).mono ?_
  rintro e w6 ⟨rfl, hw6⟩
  obtain ⟨vb6, h6, hb6⟩ := H5.out.wrote HB5.out.size hw6
  have H6 := Lib.hid h6
  have HB6 := Lib.hid (HB5.out.trans hb6)
  clear hw6 h6 hb6
  have h6 := H6.out
  rw [halves_list n (N n / 4294967296) (N n / 65536 % 65536) (N n / 256 % 256) (N n % 256) (by omega) rfl rfl rfl] at h6
  have HT := Lib.hid (h6.below ((Below.refl _ _).drew))
  have HB := Lib.hid HB6.out.drew
  clear h6 H6 H5 H4 H3 H2 H1 HB6 HB5 HB4 HB3 HB2 HB1
  go_wp2_with fail
  go_region_with (first | (go_at_call 22; refine (awake3_any _).mono ?_; rintro e w' ⟨rfl, hbel⟩; have HB := Lib.hid (HB.out.trans (hbel.mono HB.out.size)); clear hbel) | (go_at_call 42; refine (bytes_at _ _ _ _ HT.out.one 8 (by simp [putBytes_len]) (by decide) (by decide)).mono ?_; rintro e w' ⟨g, cap, rfl, ho, hb⟩; (try have hsP := str_holds (HO2.out.below hb)); (try have hsQ := str_holds (HO.out.below hb)); (try have HO2 := Lib.hid (HO.out.below hb)); have hs := str_holds ho; have HO := Lib.hid ho; have HT := Lib.hid (HT.out.below hb); have HB := Lib.hid (HB.out.trans (hb.mono HB.out.size)); clear ho hb) | (go_at_call 42; refine (bytes_at _ _ _ _ HT.out.two 8 (by simp [putBytes_len]) (by decide) (by decide)).mono ?_; rintro e w' ⟨g, cap, rfl, ho, hb⟩; (try have hsP := str_holds (HO2.out.below hb)); (try have hsQ := str_holds (HO.out.below hb)); (try have HO2 := Lib.hid (HO.out.below hb)); have hs := str_holds ho; have HO := Lib.hid ho; have HT := Lib.hid (HT.out.below hb); have HB := Lib.hid (HB.out.trans (hb.mono HB.out.size)); clear ho hb))
  all_goals go_wp2
  all_goals go_ret
  all_goals exact ⟨rfl, HB.out⟩
end Go.Proofs.Ytofoilmepddmaab
