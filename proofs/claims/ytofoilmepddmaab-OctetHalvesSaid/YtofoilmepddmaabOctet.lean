import Derived.Test.YtofoilmepddmaabProg
import Derived.Test.YtofoilmepddmaabBv
import Derived.Test.YtofoilmepddmaabMem
import Derived.Deep.RegionLaw
import Derived.Deep.Heap
import Derived.Deep.AppendLies
import Derived.StillTailTactics
import Derived.Outline
import Derived.Laws.BytesArg
namespace Go.Proofs.Ytofoilmepddmaab
open Go.RowKit
set_option maxHeartbeats 1000000
/-- Of what was there only the blocks of S may have turned. -/
structure Keeps (S : Nat → Prop) (w w' : World) : Prop where
  os : w'.os = w.os
  tape : w'.tape = w.tape
  output : w'.output = w.output
  size : w.heap.size ≤ w'.heap.size
  block : ∀ k, k < w.heap.size → ¬ S k → w'.heap[k]? = w.heap[k]?
theorem Keeps.refl (S : Nat → Prop) (w : World) : Keeps S w w := ⟨rfl, rfl, rfl, Nat.le_refl _, fun _ _ _ => rfl⟩
theorem Keeps.trans {S T U : Nat → Prop} {a b c : World} (h : Keeps S a b) (k : Keeps T b c) (hs : ∀ x, S x → U x) (ht : ∀ x, x < a.heap.size → T x → U x) : Keeps U a c :=
  ⟨k.os.trans h.os, k.tape.trans h.tape, k.output.trans h.output, Nat.le_trans h.size k.size,
    fun x hx hn => (k.block x (Nat.lt_of_lt_of_le hx h.size) (fun e => hn (ht x hx e))).trans (h.block x hx (fun e => hn (hs x e)))⟩
theorem Keeps.below {S : Nat → Prop} {B : Nat} {w w' : World} (h : Keeps S w w') (hB : B ≤ w.heap.size) (hs : ∀ x, S x → B ≤ x) : Below B w w' :=
  ⟨h.os, h.tape, h.output, h.size, fun k hk => h.block k (by omega) (fun e => by have := hs k e; omega)⟩
/-- A writer at the head of block b, its bytes in the slice v. -/
structure Wr (w : World) (b : Nat) (v : Value) (l : List Int) : Prop where
  head : w.heap[b]? = some (.cells #[v] 59 (0, 0))
  own : w.ownsRow 0 5 1 v l.length (kv .u8 l)
theorem Wr.lt {w : World} {b : Nat} {v : Value} {l : List Int} (h : Wr w b v l) : b < w.heap.size := lt_of_block h.head
theorem Wr.ne {w : World} {b : Nat} {v : Value} {l : List Int} (h : Wr w b v l) : v.ownBlock ≠ some b := by
  intro e
  rcases h.own.2 with ⟨rfl, _⟩ | ⟨g, cap, cur, rfl, _, hg, _⟩
  · simp [Value.ownBlock] at e
  · simp [Value.ownBlock] at e
    subst e
    have := h.head
    rw [hg] at this
    simp at this
theorem Wr.row_lt {w : World} {b : Nat} {v : Value} {l : List Int} (h : Wr w b v l) (k : Nat) (hk : v.ownBlock = some k) : k < w.heap.size := (h.own.lt k hk).2
/-- A writer stays as it is where its two blocks do. -/
theorem Wr.keeps {S : Nat → Prop} {w w' : World} {b : Nat} {v : Value} {l : List Int} (h : Wr w b v l) (hk : Keeps S w w') (h1 : ¬ S b) (h2 : ∀ k, v.ownBlock = some k → ¬ S k) : Wr w' b v l := by
  refine ⟨(hk.block b h.lt h1).trans h.head, h.own.1, ?_⟩
  rcases h.own.2 with hn | ⟨g, cap, cur, rfl, hb, hg, rest⟩
  · exact .inl hn
  · exact .inr ⟨g, cap, cur, rfl, hb, (hk.block g (Array.getElem?_eq_some_iff.1 hg).1 (h2 g rfl)).trans hg, rest⟩
theorem iByte : (Try.prog.info? 5).map (fun i => (i.zero, i.size, i.bytes)) = some (some (.int .u8 0), 1, 1) := by kernel_rfl
def putBytes (n : BitVec 64) : Nat → List Int
  | 0 => []
  | k + 1 => N (n >>> (8 * k)) % 256 :: putBytes n k
theorem putBytes_len (n : BitVec 64) (k : Nat) : (putBytes n k).length = k := by
  induction k with
  | zero => rfl
  | succ k ih => simp [putBytes, ih]
/-- What a call upon a writer leaves. -/
def Wrote (w : World) (b : Nat) (v : Value) (l : List Int) (w' : World) : Prop :=
  ∃ v', Wr w' b v' l ∧ Keeps (fun k => k = b ∨ v.ownBlock = some k) w w' ∧ (∀ k, v'.ownBlock = some k → v.ownBlock = some k ∨ w.heap.size ≤ k)
theorem Keeps.draw {S : Nat → Prop} {w w' : World} (h : Keeps S w w') : Keeps S w w'.drew := ⟨h.os, h.tape, h.output, h.size, h.block⟩
theorem Keeps.alloc {S : Nat → Prop} {w w' : World} (h : Keeps S w w') (o : Obj) : Keeps S w (w'.alloc o) :=
  ⟨h.os, h.tape, h.output, Nat.le_trans h.size (by rw [Deep.nblk_alloc]; omega), fun k hk hn => (Deep.blk_alloc_lt _ _ _ (Nat.lt_of_lt_of_le hk h.size)).trans (h.block k hk hn)⟩
theorem Keeps.grown {S : Nat → Prop} {w w' W : World} {row : Option Nat} (h : Keeps S w W) (hg : W.grownBy w' row) : Keeps (fun x => S x ∨ row = some x) w w' :=
  ⟨hg.os.trans h.os, hg.tape.trans h.tape, hg.output.trans h.output, Nat.le_trans h.size hg.size, fun k hk hn => (hg.block k (Nat.lt_of_lt_of_le hk h.size) (fun e => hn (.inr e.symm))).trans (h.block k hk (fun e => hn (.inl e)))⟩
theorem Keeps.set {S : Nat → Prop} {w w' : World} (h : Keeps S w w') (b : Nat) (u : Value) : Keeps (fun x => S x ∨ x = b) w (w'.setCell ⟨b, 0, none⟩ u) :=
  ⟨h.os, h.tape, h.output, Nat.le_trans h.size (by rw [Deep.nblk_setCell]; omega), fun k hk hn => (Deep.blk_setCell_other _ _ _ _ (fun e => hn (.inr e))).trans (h.block k hk (fun e => hn (.inl e)))⟩
theorem Keeps.of {S T : Nat → Prop} {w w' : World} (h : Keeps S w w') (hs : ∀ x, x < w.heap.size → S x → T x) : Keeps T w w' := ⟨h.os, h.tape, h.output, h.size, fun k hk hn => h.block k hk (fun e => hn (hs k hk e))⟩
/-- A writer whose slice has grown, stored anew. -/
theorem wr_push {w W w1 : World} {b g cap m : Nat} {v : Value} {L M : List Int} (h : Wr w b v L) (hW : Keeps (fun _ => False) w W) (hg : W.grownBy w1 v.ownBlock)
    (hown : w1.ownsRow 0 5 1 (.slice (some ⟨g, 0, none⟩) m cap) m (kv .u8 M)) (hm : m = M.length) (hat : v.ownBlock = some g ∨ w.heap.size ≤ g) :
    Wr (w1.setCell ⟨b, 0, none⟩ (.slice (some ⟨g, 0, none⟩) m cap)) b (.slice (some ⟨g, 0, none⟩) m cap) M ∧ Keeps (fun k => k = b ∨ v.ownBlock = some k) w (w1.setCell ⟨b, 0, none⟩ (.slice (some ⟨g, 0, none⟩) m cap)) := by
  have hne := h.ne
  have hlt := h.lt
  have hgb : g ≠ b := by
    rintro rfl; rcases hat with e | e; · exact hne e
    · omega
  subst hm
  have hk := (hW.grown hg)
  have hb1 : w1.heap[b]? = some (.cells #[v] 59 (0, 0)) := (hk.block b hlt (fun e => e.elim id hne)).trans h.head
  refine ⟨⟨?_, ?_⟩, (hk.set b _).of ?_⟩
  · simp [World.setCell, Array.getElem?_modify, hb1]
  · refine hown.kept (row := some b) ⟨rfl, rfl, rfl, by rw [Deep.nblk_setCell]; omega, fun k hk hn => Deep.blk_setCell_other _ _ _ _ (fun e => hn (by rw [e]))⟩ (.inr ?_)
    simpa [Value.ownBlock] using hgb
  · exact fun x _ e => e.elim (fun e => e.elim False.elim .inr) .inl
theorem put_any (b : Nat) (v : Value) (l : List Int) (n : BitVec 64) (m : Nat) (hm : m ≤ 8) (hl : l.length + 8 ≤ 281474976710656 / 4) (w : World) (h : Wr w b v l) :
    Calls Try.prog 57 #[.pointer (some ⟨b, 0, none⟩), u64 n, .int .i64 m] w fun e w' => e = .returned (.tuple #[]) ∧ Wrote w b v (l ++ putBytes n m) w' := by
  obtain ⟨i0, hi, hz0, hz1, hz2⟩ := info_parts iByte
  obtain ⟨wo, rfl⟩ : ∃ wo : World, wo = w := ⟨_, rfl⟩
  go_enter Try.func57, Try.ntmps57
  go_wp2
  go_loopw [6] (fun c wr => ∃ (k : Nat) (v' : Value) (L : List Int), c = .int .i64 ((k : Int) - 1) ∧ k ≤ m ∧ L ++ putBytes n k = l ++ putBytes n m ∧ Wr wr b v' L ∧ Keeps (fun x => x = b ∨ v.ownBlock = some x) wo wr ∧ (∀ x, v'.ownBlock = some x → v.ownBlock = some x ∨ wo.heap.size ≤ x)) (fun c _ => (intOf c + 1).toNat)
  case atStart => exact ⟨m, v, l, rfl, by omega, rfl, h, Keeps.refl _ _, fun x hx => .inl hx⟩
  case round =>
    obtain ⟨k, v', L, rfl, hk, hL, hw, hkp, hvb⟩ := hrel
    have HL := Lib.hid hL
    have HK := Lib.hid hkp
    have HV := Lib.hid hvb
    have hsz := hkp.size
    clear hL hkp hvb
    obtain ⟨w2, rfl⟩ : ∃ w2 : World, w2 = wr := ⟨_, rfl⟩
    have hLl : L.length + k = l.length + m := by have := congrArg List.length HL.out; rw [List.length_append, List.length_append, putBytes_len, putBytes_len] at this; exact this
    by_cases hlt : 0 < k
    · obtain ⟨j, rfl⟩ : ∃ j, k = j + 1 := ⟨k - 1, by omega⟩
      have hc := cell_of_one hw.head
      have hf := free_of_one hw.head
      have hbl := hw.lt
      have hne := hw.ne
      have e0 : IntKind.i64.wrap (8 * (j : Int)) = 8 * (j : Int) := IntWalk.i64_in _ (by omega)
      have e00 : (0 : Int) ≤ 8 * (j : Int) := by omega
      have e1 : (8 * (j : Int)).toNat = 8 * j := by omega
      have e2 : min (8 * j) 64 = 8 * j := by omega
      have e3 : N n / 2 ^ (8 * j) = N (n >>> (8 * j)) := by have := bv_shr n (8 * j); rwa [Int.natCast_pow] at this
      have e4 : IntKind.u8.wrap (N (n >>> (8 * j))) = N (n >>> (8 * j)) % 256 := IntKind.wrap_u8 _
      have ho := hw.own
      obtain ⟨y, hy⟩ : ∃ y, N (n >>> (8 * j)) % 256 = y := ⟨_, rfl⟩
      rw [hy] at e4
      have HY : Hid (L ++ [y] ++ putBytes n j = l ++ putBytes n m) := Lib.hid (by have := HL.out; rw [putBytes, hy] at this; simpa using this)
      clear hy
      have ho2 := (ho.alloc (.cells #[.int .u8 y] 5 (0,0)))
      have hf2 : (w2.alloc (.cells #[.int .u8 y] 5 (0,0))).frozen? ⟨b, 0, none⟩ = false := (free_of_one (b := b) ((heap_alloc_old w2 _ hbl).trans hw.head))
      have hc2 : (w2.alloc (.cells #[.int .u8 y] 5 (0,0))).cell? ⟨b, 0, none⟩ = some v' := (cell_of_one (b := b) ((heap_alloc_old w2 _ hbl).trans hw.head))
      go_wp2_with fail
      go_region_law ((refine step_append_lies _ (by rfl) _ _ 32 (by rfl) 0 5 i0 (.int .u8 0) 1 1 Try.underlying32 hi hz0 hz1 hz2 rfl (by decide) v' L.length (kv .u8 L) (by rfl) (ho2.drew) ⟨w2.heap.size, 0, none⟩ 1 1 [.int .u8 y] (by rfl) (by rfl) (World.news_of_block (heap_alloc_new _ _)) (by simp [Value.oneCell']) (by decide) (by simp [maxLen]; omega) (by omega) (by omega) (w2.heap.size + 1) (by simp) ?_; intro g cap w1 hown hgrow hat hlt; have hfb : w1.frozen? ⟨b, 0, none⟩ = false := (hgrow.frozen_far _ (by simp; omega) (Ne.symm hne)).trans hf2; have hcb : w1.cell? ⟨b, 0, none⟩ = some v' := (hgrow.cell_far _ (by simp; omega) (Ne.symm hne)).trans hc2))
      all_goals go_wp2
      all_goals
        obtain ⟨hw3, hk3⟩ := wr_push (M := L ++ [y]) hw (((Keeps.refl _ w2).alloc _).draw) hgrow (by simpa [kv] using hown) (by simp) (hat.imp id (by omega))
        refine ⟨⟨j, _, L ++ [y], rfl, by omega, HY.out, hw3, HK.out.trans hk3 (fun x e => e) (fun x hx e => e.elim .inl (fun e => (HV.out x e).elim .inr (by omega))), ?_⟩, by simp [intOf]⟩
        intro x hx
        have hgx : g = x := by simpa [Value.ownBlock] using hx
        subst hgx
        rcases hat with e | e
        · exact HV.out _ e
        · exact .inr (by omega)
    · have hk0 : k = 0 := by omega
      subst hk0
      go_wp2
      go_end0
      exact ⟨rfl, v', by have := HL.out; rw [putBytes, List.append_nil] at this; rw [← this]; exact hw, HK.out, HV.out⟩

theorem clone_any (v : Value) (l : List Int) (w : World) (h : Holds w v (kv .u8 l)) (hl : l.length ≤ 140737488355328) :
    Calls Try.prog 53 #[v] w fun e w' => Fresh w 5 (kv .u8 l) e w' := by
  obtain ⟨i0, hi, hz0, hz1, hz2⟩ := info_parts iByte
  obtain ⟨ao, cap, rfl, hcap, hmx, hh⟩ := h
  have q32 : ∀ (w : World) (a : Option Addr) (n c n' c' : Nat), (binOp .eql 32 (.slice a n c) (.slice none n' c')).run Try.prog w = .ok (.bool a.isNone) w := fun w a n c n' c' => Lib.run_eql_slice_nil w _ _ a n c n' c' Try.underlying32
  have u32 : ∀ w, Sem.run Try.prog (underlying 32) w = .ok (TypeDesc.slice 5) w := run_underlying Try.underlying32
  rw [kv_len] at hcap ⊢
  obtain ⟨n, hn⟩ : ∃ n, n = l.length := ⟨_, rfl⟩
  have HN := Lib.hid hn
  have HH := Lib.hid hh
  rw [← hn] at hl hcap ⊢
  clear hh hn
  cases ao with
  | none =>
    have hl0 : l = [] := by
      rcases HH.out with e | ⟨b, off, e, _⟩
      · simpa [kv] using e
      · simp at e
    have h0 : n = 0 := by rw [HN.out, hl0]; rfl
    subst h0
    go_enter Try.func53, Try.ntmps53
    go_wp2
    go_ret
    refine ⟨_, rfl, ?_, Below.refl _ _⟩
    rw [hl0]
    exact World.ownsRow_nil w _ _ _
  | some ad =>
    obtain ⟨w0, rfl⟩ : ∃ w0 : World, w0 = w := ⟨_, rfl⟩
    go_enter Try.func53, Try.ntmps53
    go_wp2_with (at_builtin; refine wpList_append_own _ rfl _ _ 32 rfl w0.heap.size 5 i0 (.int .u8 0) 1 1 Try.underlying32 hi hz0 hz1 hz2 rfl (by decide) _ _ _ rfl (World.ownsRow_made w0 #[] 0 (Nat.le_refl _) (Nat.zero_le _) rfl) ad n cap (kv .u8 l) rfl ?c1 ?c2 ?c3 ?c4 ?c5 ?c6 ?_)
    case c1 => rw [kv_len, ← HN.out]; omega
    case c2 =>
      intro j u hj
      rcases HH.out with e | ⟨b, off, e, hc⟩
      · rw [e] at hj; simp at hj
      · injection e with e; subst e
        rw [Addr.add_lit]
        exact Lib.cell?_alloc_some _ (hc j u hj)
    case c3 => intro u hu; obtain ⟨x, _, rfl⟩ := List.mem_map.1 hu; rfl
    case c4 => unfold maxLen; omega
    case c5 => omega
    case c6 => simp
    intro v' w1 hown hgrow hnil
    go_wp2
    go_ret
    refine ⟨v', rfl, by rw [kv_len, ← HN.out]; simpa using hown, ?_⟩
    exact ((Below.refl _ w0).alloc (Nat.le_refl _) _).grown hgrow (by simp) (by intro k hk; simp [Value.ownBlock] at hk; omega)
theorem bytes_any (b : Nat) (v : Value) (l : List Int) (w : World) (h : Wr w b v l) (hl : l.length ≤ 140737488355328) :
    Calls Try.prog 42 #[.pointer (some ⟨b, 0, none⟩)] w fun e w' => Fresh w 5 (kv .u8 l) e w' := by
  have HL := Lib.hid hl
  have hc := cell_of_one h.head
  have HW := Lib.hid h
  clear hl h
  go_enter Try.func42, Try.ntmps42
  go_wp2_with (go_at_call 53; refine (clone_any _ _ _ (holds_own HW.out.own) HL.out).mono ?_; rintro e w' ⟨v', rfl, h1, h2⟩)
  go_ret
  exact ⟨v', rfl, h1, h2⟩
theorem bytes_nil (w : World) : Calls Try.prog 42 #[.pointer none] w fun e w' => e = .returned (.slice none 0 0) ∧ w = w' := by
  go_enter Try.func42, Try.ntmps42
  go_wp2
  go_ret
  exact ⟨rfl, rfl⟩
theorem put_nil (w : World) (n m : Int) : Calls Try.prog 57 #[.pointer none, .int .u64 n, .int .i64 m] w fun e w' => e = .returned (.tuple #[]) ∧ w = w' := by
  go_enter Try.func57, Try.ntmps57
  go_wp2
  (try simp only [Exit.inBlock, Exit.then]); refine bodyPost_ret (results_none rfl _ _ _) rfl ?_
  exact ⟨rfl, rfl⟩
theorem u8_any (b : Nat) (v : Value) (l : List Int) (n : Int) (hl : l.length + 8 ≤ 281474976710656 / 4) (w : World) (h : Wr w b v l) :
    Calls Try.prog 37 #[.pointer (some ⟨b, 0, none⟩), .int .i64 n] w fun e w' => e = .returned (.tuple #[]) ∧ Wrote w b v (l ++ putBytes (BitVec.ofInt 64 n) 1) w' := by
  have e0 := bv_wrap_int n
  have HW := Lib.hid h
  clear h
  go_enter Try.func37, Try.ntmps37
  go_wp2_with (go_at_call 57; refine (put_any b v l (BitVec.ofInt 64 n) 1 (by decide) hl _ HW.out).mono ?_; rintro e w' ⟨rfl, hw⟩)
  go_end0
  exact ⟨rfl, hw⟩
theorem u16_any (b : Nat) (v : Value) (l : List Int) (n : Int) (hl : l.length + 8 ≤ 281474976710656 / 4) (w : World) (h : Wr w b v l) :
    Calls Try.prog 38 #[.pointer (some ⟨b, 0, none⟩), .int .i64 n] w fun e w' => e = .returned (.tuple #[]) ∧ Wrote w b v (l ++ putBytes (BitVec.ofInt 64 n) 2) w' := by
  have e0 := bv_wrap_int n
  have HW := Lib.hid h
  clear h
  go_enter Try.func38, Try.ntmps38
  go_wp2_with (go_at_call 57; refine (put_any b v l (BitVec.ofInt 64 n) 2 (by decide) hl _ HW.out).mono ?_; rintro e w' ⟨rfl, hw⟩)
  go_end0
  exact ⟨rfl, hw⟩
theorem u32_any (b : Nat) (v : Value) (l : List Int) (n : Int) (hl : l.length + 8 ≤ 281474976710656 / 4) (w : World) (h : Wr w b v l) :
    Calls Try.prog 39 #[.pointer (some ⟨b, 0, none⟩), .int .u32 n] w fun e w' => e = .returned (.tuple #[]) ∧ Wrote w b v (l ++ putBytes (BitVec.ofInt 64 n) 4) w' := by
  have e0 := bv_wrap_int n
  have HW := Lib.hid h
  clear h
  go_enter Try.func39, Try.ntmps39
  go_wp2_with (go_at_call 57; refine (put_any b v l (BitVec.ofInt 64 n) 4 (by decide) hl _ HW.out).mono ?_; rintro e w' ⟨rfl, hw⟩)
  go_end0
  exact ⟨rfl, hw⟩
theorem u64_any (b : Nat) (v : Value) (l : List Int) (n : BitVec 64) (hl : l.length + 8 ≤ 281474976710656 / 4) (w : World) (h : Wr w b v l) :
    Calls Try.prog 40 #[.pointer (some ⟨b, 0, none⟩), u64 n] w fun e w' => e = .returned (.tuple #[]) ∧ Wrote w b v (l ++ putBytes n 8) w' := by
  have HW := Lib.hid h
  clear h
  go_enter Try.func40, Try.ntmps40
  go_wp2_with (go_at_call 57; refine (put_any b v l n 8 (by decide) hl _ HW.out).mono ?_; rintro e w' ⟨rfl, hw⟩)
  go_end0
  exact ⟨rfl, hw⟩
theorem u8_nil (w : World) (n : Int) : Calls Try.prog 37 #[.pointer none, .int .i64 n] w fun e w' => e = .returned (.tuple #[]) ∧ w = w' := by
  go_enter Try.func37, Try.ntmps37
  go_wp2_with (go_at_call 57; refine (put_nil _ _ _).mono ?_; rintro e w' ⟨rfl, rfl⟩)
  go_end0
  exact ⟨rfl, rfl⟩
theorem u16_nil (w : World) (n : Int) : Calls Try.prog 38 #[.pointer none, .int .i64 n] w fun e w' => e = .returned (.tuple #[]) ∧ w = w' := by
  go_enter Try.func38, Try.ntmps38
  go_wp2_with (go_at_call 57; refine (put_nil _ _ _).mono ?_; rintro e w' ⟨rfl, rfl⟩)
  go_end0
  exact ⟨rfl, rfl⟩
theorem u32_nil (w : World) (n : Int) : Calls Try.prog 39 #[.pointer none, .int .u32 n] w fun e w' => e = .returned (.tuple #[]) ∧ w = w' := by
  go_enter Try.func39, Try.ntmps39
  go_wp2_with (go_at_call 57; refine (put_nil _ _ _).mono ?_; rintro e w' ⟨rfl, rfl⟩)
  go_end0
  exact ⟨rfl, rfl⟩
theorem u64_nil (w : World) (n : Int) : Calls Try.prog 40 #[.pointer none, .int .u64 n] w fun e w' => e = .returned (.tuple #[]) ∧ w = w' := by
  go_enter Try.func40, Try.ntmps40
  go_wp2_with (go_at_call 57; refine (put_nil _ _ _).mono ?_; rintro e w' ⟨rfl, rfl⟩)
  go_end0
  exact ⟨rfl, rfl⟩
theorem raw_nil (w : World) (v : Value) : Calls Try.prog 41 #[.pointer none, v] w fun e w' => e = .returned (.tuple #[]) ∧ w = w' := by
  go_enter Try.func41, Try.ntmps41
  go_wp2
  go_end0
  exact ⟨rfl, rfl⟩
theorem take_nil (w : World) (n : Int) : Calls Try.prog 56 #[.pointer none, .int .i64 n] w fun e w' => e = .returned (.tuple #[.slice none 0 0, .bool false]) ∧ w = w' := by
  go_enter Try.func56, Try.ntmps56
  go_wp2
  go_ret2
  exact ⟨rfl, rfl⟩
theorem get_nil (w : World) (n : Int) : Calls Try.prog 54 #[.pointer none, .int .i64 n] w fun e w' => e = .returned (.int .u64 0) ∧ w = w' := by
  go_enter Try.func54, Try.ntmps54
  go_wp2_with (go_at_call 56; refine (take_nil _ _).mono ?_; rintro e w' ⟨rfl, rfl⟩)
  go_ret
  exact ⟨rfl, rfl⟩
theorem ru8_nil (w : World) : Calls Try.prog 24 #[.pointer none] w fun e w' => e = .returned (.int .i64 0) ∧ w = w' := by
  go_enter Try.func24, Try.ntmps24
  go_wp2_with (go_at_call 54; refine (get_nil _ _).mono ?_; rintro e w' ⟨rfl, rfl⟩)
  go_ret
  exact ⟨rfl, rfl⟩
theorem ru16_nil (w : World) : Calls Try.prog 26 #[.pointer none] w fun e w' => e = .returned (.int .i64 0) ∧ w = w' := by
  go_enter Try.func26, Try.ntmps26
  go_wp2_with (go_at_call 54; refine (get_nil _ _).mono ?_; rintro e w' ⟨rfl, rfl⟩)
  go_ret
  exact ⟨rfl, rfl⟩
theorem ru32_nil (w : World) : Calls Try.prog 28 #[.pointer none] w fun e w' => e = .returned (.int .u32 0) ∧ w = w' := by
  go_enter Try.func28, Try.ntmps28
  go_wp2_with (go_at_call 54; refine (get_nil _ _).mono ?_; rintro e w' ⟨rfl, rfl⟩)
  go_ret
  exact ⟨rfl, rfl⟩
theorem ru64_nil (w : World) : Calls Try.prog 30 #[.pointer none] w fun e w' => e = .returned (.int .u64 0) ∧ w = w' := by
  go_enter Try.func30, Try.ntmps30
  go_wp2_with (go_at_call 54; refine (get_nil _ _).mono ?_; rintro e w' ⟨rfl, rfl⟩)
  go_ret
  exact ⟨rfl, rfl⟩
theorem rraw_nil (w : World) : Calls Try.prog 32 #[.pointer none, .int .i64 3] w fun e w' => e = .returned (.slice none 0 0) ∧ w = w' := by
  go_enter Try.func32, Try.ntmps32
  go_wp2_with (go_at_call 56; refine (take_nil _ _).mono ?_; rintro e w' ⟨rfl, rfl⟩)
  go_ret
  exact ⟨rfl, rfl⟩
theorem rleft_nil (w : World) : Calls Try.prog 34 #[.pointer none] w fun e w' => e = .returned (.int .i64 0) ∧ w = w' := by
  go_enter Try.func34, Try.ntmps34
  go_wp2
  go_ret
  exact ⟨rfl, rfl⟩
theorem rend_nil (w : World) : Calls Try.prog 35 #[.pointer none] w fun e w' => e = .returned (.int .i64 1) ∧ w = w' := by
  go_enter Try.func35, Try.ntmps35
  go_wp2
  go_ret
  exact ⟨rfl, rfl⟩
theorem str_holds {w : World} {v : Value} {l : List Int} (h : Holds w v (kv .u8 l)) : (convert 32 9 v).run Try.prog w = .ok (.string (strOfNums l)) w := by
  obtain ⟨ao, cap, rfl, _, _, hh⟩ := h
  rw [kv_len]
  cases ao with
  | none =>
    have hl0 : l = [] := by
      rcases hh with e | ⟨b, off, e, _⟩
      · simpa [kv] using e
      · simp at e
    subst hl0
    exact run_convert_bytes_nil (P := Try.prog) w 32 5 Try.underlying32 Try.underlying5 _ _ 9 Try.underlying9
  | some ad =>
    rcases hh with e | ⟨b, off, e, hc⟩
    · have hl0 : l = [] := by simpa [kv] using e
      subst hl0
      exact run_convert_bytes_back (P := Try.prog) w 32 9 5 ad cap [] Try.underlying32 Try.underlying5 Try.underlying9 (fun j hj => absurd hj (by simp))
    · injection e with e
      subst e
      exact run_convert_bytes_arg (P := Try.prog) w 32 5 Try.underlying32 Try.underlying5 b off _ cap l rfl (fun i hi => hc i _ (kv_getD .u8 l i hi)) 9 Try.underlying9
theorem wr_new (w : World) : Wr (w.alloc (.cells #[.slice none 0 0] 59)) w.heap.size (.slice none 0 0) [] := ⟨Deep.blk_alloc_new _ _, World.ownsRow_nil _ _ _ _⟩
theorem keeps_new (w : World) (o : Obj) : Keeps (fun _ => False) w (w.alloc o) := (Keeps.refl _ w).alloc o
end Go.Proofs.Ytofoilmepddmaab
