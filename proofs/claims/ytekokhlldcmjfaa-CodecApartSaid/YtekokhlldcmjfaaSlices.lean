/- slices.Equal, slices.Clone, of slices of numbers (written by wip/tools/gen_slices.py). -/
import Derived.Test.YtekokhlldcmjfaaProg
import Derived.Test.YtekokhlldcmjfaaBv
import Derived.Test.YtekokhlldcmjfaaMem
import Derived.Deep.Heap
namespace Go.Proofs.Ytekokhlldcmjfaa
open Go.RowKit
set_option maxRecDepth 100000
set_option maxHeartbeats 1000000
theorem take_both {k : Nat} {l1 l2 : List Int} (h1 : k < l1.length) (h2 : k < l2.length) (h : l1.take k = l2.take k) (hx : l1.getD k 0 = l2.getD k 0) : l1.take (k + 1) = l2.take (k + 1) := by
  rw [take_getD _ _ h1, take_getD _ _ h2, h, hx]
theorem equalI_any (v1 v2 : Value) (l1 l2 : List Int) (w : World) (h1 : Reads .i64 w v1 l1) (h2 : Reads .i64 w v2 l2) :
    Calls Try.prog 106 #[v1, v2] w fun e w' => e = .returned (.bool (l1 == l2)) ∧ ∃ n, w' = w.drewN n := by
  obtain ⟨⟨a1, c1, rfl, _, _, h1⟩, _, hm1⟩ := h1
  obtain ⟨⟨a2, c2, rfl, _, _, h2⟩, _, hm2⟩ := h2
  unfold maxLen at hm1 hm2
  simp only [List.length_map] at h1 h2 ⊢
  by_cases hl : l1.length = l2.length
  · obtain ⟨n, hn1, hn2⟩ : ∃ n, l1.length = n ∧ l2.length = n := ⟨_, rfl, hl.symm⟩
    rw [hn1] at hm1 hl ⊢
    rw [hn2] at hm2 ⊢
    clear hl
    obtain ⟨wo, rfl⟩ : ∃ wo : World, wo = w := ⟨_, rfl⟩
    go_enter Try.func106, Try.ntmps106
    go_wp2
    go_loopw [13] (fun c wr => ∃ k : Nat, c = .int .i64 k ∧ k ≤ n ∧ l1.take k = l2.take k ∧ ∃ m, wr = wo.drewN m) (fun c _ => n - (intOf c).toNat)
    case atStart => exact ⟨0, rfl, by omega, by simp, 0, rfl⟩
    case round =>
      obtain ⟨k, rfl, hk, hkk, m, rfl⟩ := hrel
      have HK := Lib.hid hkk
      clear hkk
      by_cases hlt : k < n
      · have e1 : (kv .i64 l1)[k]? = some (.int .i64 (l1.getD k 0)) := kv_getD .i64 l1 k (by omega)
        have e2 : (kv .i64 l2)[k]? = some (.int .i64 (l2.getD k 0)) := kv_getD .i64 l2 k (by omega)
        rcases h1 with h1 | ⟨b1, o1, rfl, h1⟩
        · simp [h1] at e1
        rcases h2 with h2 | ⟨b2, o2, rfl, h2⟩
        · simp [h2] at e2
        have g1 := h1 k _ e1
        have g2 := h2 k _ e2
        clear h1 h2 e1 e2
        obtain ⟨x, hx⟩ : ∃ x, l1.getD k 0 = x := ⟨_, rfl⟩
        obtain ⟨y, hy⟩ : ∃ y, l2.getD k 0 = y := ⟨_, rfl⟩
        rw [hx] at g1
        rw [hy] at g2
        have HX := Lib.hid hx
        have HY := Lib.hid hy
        clear hx hy
        by_cases hxy : x = y
        · have HT : Hid (l1.take (k + 1) = l2.take (k + 1)) := Lib.hid (take_both (by omega) (by omega) HK.out (by rw [HX.out, HY.out, hxy]))
          subst hxy
          have hne : (x != x) = false := by simp
          go_wp2
          go_quiet (fail)
          go_wp2
          go_roundw
          case rel => exact ⟨k + 1, by go_num, by omega, HT.out, _, rfl⟩
          case measure => simp [intOf]; omega
        · have HF : Hid ((l1 == l2) = false) := Lib.hid (by
            rw [beq_eq_false_iff_ne]; intro e; apply hxy; rw [← HX.out, ← HY.out, e])
          have hne : (x != y) = true := by rw [bne_iff_ne]; exact hxy
          clear hxy
          go_wp2
          go_quiet (fail)
          go_wp2
          go_ret
          exact ⟨ret_bool HF.out.symm, _, by rw [World.drewN_drewN]⟩
      · have hkn : k = n := by omega
        subst hkn
        go_wp2
        go_ret
        exact ⟨ret_bool (by have := HK.out; rw [← hn1, List.take_length, hn1, ← hn2, List.take_length] at this; rw [this]; simp), _, rfl⟩
  · have hf : (l1 == l2) = false := by rw [beq_eq_false_iff_ne]; intro e; exact hl (by rw [e])
    rw [hf]
    have hne : ((l1.length : Int) != (l2.length : Int)) = true := by rw [bne_iff_ne]; omega
    clear hl
    go_enter Try.func106, Try.ntmps106
    go_wp2
    go_ret
    exact ⟨rfl, 0, rfl⟩
theorem infoI : (Try.prog.info? 3).map (fun i => (i.zero, i.size, i.bytes)) = some (some (.int .i64 0), 1, 8) := by kernel_rfl
theorem cloneI_any (v : Value) (l : List Int) (w : World) (h : Holds w v (kv .i64 l)) (hl : l.length * 8 ≤ 140737488355328) :
    Calls Try.prog 100 #[v] w fun e w' => Fresh w 3 (kv .i64 l) e w' := by
  obtain ⟨i0, hi, hz0, hz1, hz2⟩ := info_parts infoI
  obtain ⟨ao, cap, rfl, hcap, hmx, hh⟩ := h
  have q32 : ∀ (w : World) (a : Option Addr) (n c n' c' : Nat), (binOp .eql 22 (.slice a n c) (.slice none n' c')).run Try.prog w = .ok (.bool a.isNone) w := fun w a n c n' c' => Lib.run_eql_slice_nil w _ _ a n c n' c' Try.underlying22
  have u32 : ∀ w, Sem.run Try.prog (underlying 22) w = .ok (TypeDesc.slice 3) w := run_underlying Try.underlying22
  rw [kv_len] at hcap ⊢
  obtain ⟨n, hn⟩ : ∃ n, n = l.length := ⟨_, rfl⟩
  have HN := Lib.hid hn
  have HH := Lib.hid hh
  rw [← hn] at hl hcap ⊢
  clear hh hn
  cases ao with
  | none =>
    have hl0 : l = [] := by
      rcases HH.out with e | ⟨b, off, e, _⟩
      · simpa [kv] using e
      · simp at e
    have h0 : n = 0 := by rw [HN.out, hl0]; rfl
    subst h0
    go_enter Try.func100, Try.ntmps100
    go_wp2
    go_ret
    refine ⟨_, rfl, ?_, Below.refl _ _⟩
    rw [hl0]
    exact World.ownsRow_nil w _ _ _
  | some ad =>
    obtain ⟨w0, rfl⟩ : ∃ w0 : World, w0 = w := ⟨_, rfl⟩
    go_enter Try.func100, Try.ntmps100
    go_wp2_with (at_builtin; refine wpList_append_own _ rfl _ _ 22 rfl w0.heap.size 3 i0 (.int .i64 0) 1 8 Try.underlying22 hi hz0 hz1 hz2 rfl (by decide) _ _ _ rfl (World.ownsRow_made w0 #[] 0 (Nat.le_refl _) (Nat.zero_le _) rfl) ad n cap (kv .i64 l) rfl ?c1 ?c2 ?c3 ?c4 ?c5 ?c6 ?_)
    case c1 => rw [kv_len, ← HN.out]; omega
    case c2 =>
      intro j u hj
      rcases HH.out with e | ⟨b, off, e, hc⟩
      · rw [e] at hj; simp at hj
      · injection e with e; subst e
        rw [Addr.add_lit]
        exact Lib.cell?_alloc_some _ (hc j u hj)
    case c3 => intro u hu; obtain ⟨x, _, rfl⟩ := List.mem_map.1 hu; rfl
    case c4 => unfold maxLen; omega
    case c5 => omega
    case c6 => simp
    intro v' w1 hown hgrow hnil
    go_wp2
    go_ret
    refine ⟨v', rfl, by rw [kv_len, ← HN.out]; simpa using hown, ?_⟩
    exact ((Below.refl _ w0).alloc (Nat.le_refl _) _).grown hgrow (by simp) (by intro k hk; simp [Value.ownBlock] at hk; omega)
theorem equal8_any (v1 v2 : Value) (l1 l2 : List Int) (w : World) (h1 : Reads .i8 w v1 l1) (h2 : Reads .i8 w v2 l2) :
    Calls Try.prog 142 #[v1, v2] w fun e w' => e = .returned (.bool (l1 == l2)) ∧ ∃ n, w' = w.drewN n := by
  obtain ⟨⟨a1, c1, rfl, _, _, h1⟩, _, hm1⟩ := h1
  obtain ⟨⟨a2, c2, rfl, _, _, h2⟩, _, hm2⟩ := h2
  unfold maxLen at hm1 hm2
  simp only [List.length_map] at h1 h2 ⊢
  by_cases hl : l1.length = l2.length
  · obtain ⟨n, hn1, hn2⟩ : ∃ n, l1.length = n ∧ l2.length = n := ⟨_, rfl, hl.symm⟩
    rw [hn1] at hm1 hl ⊢
    rw [hn2] at hm2 ⊢
    clear hl
    obtain ⟨wo, rfl⟩ : ∃ wo : World, wo = w := ⟨_, rfl⟩
    go_enter Try.func142, Try.ntmps142
    go_wp2
    go_loopw [13] (fun c wr => ∃ k : Nat, c = .int .i64 k ∧ k ≤ n ∧ l1.take k = l2.take k ∧ ∃ m, wr = wo.drewN m) (fun c _ => n - (intOf c).toNat)
    case atStart => exact ⟨0, rfl, by omega, by simp, 0, rfl⟩
    case round =>
      obtain ⟨k, rfl, hk, hkk, m, rfl⟩ := hrel
      have HK := Lib.hid hkk
      clear hkk
      by_cases hlt : k < n
      · have e1 : (kv .i8 l1)[k]? = some (.int .i8 (l1.getD k 0)) := kv_getD .i8 l1 k (by omega)
        have e2 : (kv .i8 l2)[k]? = some (.int .i8 (l2.getD k 0)) := kv_getD .i8 l2 k (by omega)
        rcases h1 with h1 | ⟨b1, o1, rfl, h1⟩
        · simp [h1] at e1
        rcases h2 with h2 | ⟨b2, o2, rfl, h2⟩
        · simp [h2] at e2
        have g1 := h1 k _ e1
        have g2 := h2 k _ e2
        clear h1 h2 e1 e2
        obtain ⟨x, hx⟩ : ∃ x, l1.getD k 0 = x := ⟨_, rfl⟩
        obtain ⟨y, hy⟩ : ∃ y, l2.getD k 0 = y := ⟨_, rfl⟩
        rw [hx] at g1
        rw [hy] at g2
        have HX := Lib.hid hx
        have HY := Lib.hid hy
        clear hx hy
        by_cases hxy : x = y
        · have HT : Hid (l1.take (k + 1) = l2.take (k + 1)) := Lib.hid (take_both (by omega) (by omega) HK.out (by rw [HX.out, HY.out, hxy]))
          subst hxy
          have hne : (x != x) = false := by simp
          go_wp2
          go_quiet (fail)
          go_wp2
          go_roundw
          case rel => exact ⟨k + 1, by go_num, by omega, HT.out, _, rfl⟩
          case measure => simp [intOf]; omega
        · have HF : Hid ((l1 == l2) = false) := Lib.hid (by
            rw [beq_eq_false_iff_ne]; intro e; apply hxy; rw [← HX.out, ← HY.out, e])
          have hne : (x != y) = true := by rw [bne_iff_ne]; exact hxy
          clear hxy
          go_wp2
          go_quiet (fail)
          go_wp2
          go_ret
          exact ⟨ret_bool HF.out.symm, _, by rw [World.drewN_drewN]⟩
      · have hkn : k = n := by omega
        subst hkn
        go_wp2
        go_ret
        exact ⟨ret_bool (by have := HK.out; rw [← hn1, List.take_length, hn1, ← hn2, List.take_length] at this; rw [this]; simp), _, rfl⟩
  · have hf : (l1 == l2) = false := by rw [beq_eq_false_iff_ne]; intro e; exact hl (by rw [e])
    rw [hf]
    have hne : ((l1.length : Int) != (l2.length : Int)) = true := by rw [bne_iff_ne]; omega
    clear hl
    go_enter Try.func142, Try.ntmps142
    go_wp2
    go_ret
    exact ⟨rfl, 0, rfl⟩
theorem info8 : (Try.prog.info? 52).map (fun i => (i.zero, i.size, i.bytes)) = some (some (.int .i8 0), 1, 1) := by kernel_rfl
theorem clone8_any (v : Value) (l : List Int) (w : World) (h : Holds w v (kv .i8 l)) (hl : l.length * 1 ≤ 140737488355328) :
    Calls Try.prog 101 #[v] w fun e w' => Fresh w 52 (kv .i8 l) e w' := by
  obtain ⟨i0, hi, hz0, hz1, hz2⟩ := info_parts info8
  obtain ⟨ao, cap, rfl, hcap, hmx, hh⟩ := h
  have q32 : ∀ (w : World) (a : Option Addr) (n c n' c' : Nat), (binOp .eql 23 (.slice a n c) (.slice none n' c')).run Try.prog w = .ok (.bool a.isNone) w := fun w a n c n' c' => Lib.run_eql_slice_nil w _ _ a n c n' c' Try.underlying23
  have u32 : ∀ w, Sem.run Try.prog (underlying 23) w = .ok (TypeDesc.slice 52) w := run_underlying Try.underlying23
  rw [kv_len] at hcap ⊢
  obtain ⟨n, hn⟩ : ∃ n, n = l.length := ⟨_, rfl⟩
  have HN := Lib.hid hn
  have HH := Lib.hid hh
  rw [← hn] at hl hcap ⊢
  clear hh hn
  cases ao with
  | none =>
    have hl0 : l = [] := by
      rcases HH.out with e | ⟨b, off, e, _⟩
      · simpa [kv] using e
      · simp at e
    have h0 : n = 0 := by rw [HN.out, hl0]; rfl
    subst h0
    go_enter Try.func101, Try.ntmps101
    go_wp2
    go_ret
    refine ⟨_, rfl, ?_, Below.refl _ _⟩
    rw [hl0]
    exact World.ownsRow_nil w _ _ _
  | some ad =>
    obtain ⟨w0, rfl⟩ : ∃ w0 : World, w0 = w := ⟨_, rfl⟩
    go_enter Try.func101, Try.ntmps101
    go_wp2_with (at_builtin; refine wpList_append_own _ rfl _ _ 23 rfl w0.heap.size 52 i0 (.int .i8 0) 1 1 Try.underlying23 hi hz0 hz1 hz2 rfl (by decide) _ _ _ rfl (World.ownsRow_made w0 #[] 0 (Nat.le_refl _) (Nat.zero_le _) rfl) ad n cap (kv .i8 l) rfl ?c1 ?c2 ?c3 ?c4 ?c5 ?c6 ?_)
    case c1 => rw [kv_len, ← HN.out]; omega
    case c2 =>
      intro j u hj
      rcases HH.out with e | ⟨b, off, e, hc⟩
      · rw [e] at hj; simp at hj
      · injection e with e; subst e
        rw [Addr.add_lit]
        exact Lib.cell?_alloc_some _ (hc j u hj)
    case c3 => intro u hu; obtain ⟨x, _, rfl⟩ := List.mem_map.1 hu; rfl
    case c4 => unfold maxLen; omega
    case c5 => omega
    case c6 => simp
    intro v' w1 hown hgrow hnil
    go_wp2
    go_ret
    refine ⟨v', rfl, by rw [kv_len, ← HN.out]; simpa using hown, ?_⟩
    exact ((Below.refl _ w0).alloc (Nat.le_refl _) _).grown hgrow (by simp) (by intro k hk; simp [Value.ownBlock] at hk; omega)
theorem equal32_any (v1 v2 : Value) (l1 l2 : List Int) (w : World) (h1 : Reads .i32 w v1 l1) (h2 : Reads .i32 w v2 l2) :
    Calls Try.prog 138 #[v1, v2] w fun e w' => e = .returned (.bool (l1 == l2)) ∧ ∃ n, w' = w.drewN n := by
  obtain ⟨⟨a1, c1, rfl, _, _, h1⟩, _, hm1⟩ := h1
  obtain ⟨⟨a2, c2, rfl, _, _, h2⟩, _, hm2⟩ := h2
  unfold maxLen at hm1 hm2
  simp only [List.length_map] at h1 h2 ⊢
  by_cases hl : l1.length = l2.length
  · obtain ⟨n, hn1, hn2⟩ : ∃ n, l1.length = n ∧ l2.length = n := ⟨_, rfl, hl.symm⟩
    rw [hn1] at hm1 hl ⊢
    rw [hn2] at hm2 ⊢
    clear hl
    obtain ⟨wo, rfl⟩ : ∃ wo : World, wo = w := ⟨_, rfl⟩
    go_enter Try.func138, Try.ntmps138
    go_wp2
    go_loopw [13] (fun c wr => ∃ k : Nat, c = .int .i64 k ∧ k ≤ n ∧ l1.take k = l2.take k ∧ ∃ m, wr = wo.drewN m) (fun c _ => n - (intOf c).toNat)
    case atStart => exact ⟨0, rfl, by omega, by simp, 0, rfl⟩
    case round =>
      obtain ⟨k, rfl, hk, hkk, m, rfl⟩ := hrel
      have HK := Lib.hid hkk
      clear hkk
      by_cases hlt : k < n
      · have e1 : (kv .i32 l1)[k]? = some (.int .i32 (l1.getD k 0)) := kv_getD .i32 l1 k (by omega)
        have e2 : (kv .i32 l2)[k]? = some (.int .i32 (l2.getD k 0)) := kv_getD .i32 l2 k (by omega)
        rcases h1 with h1 | ⟨b1, o1, rfl, h1⟩
        · simp [h1] at e1
        rcases h2 with h2 | ⟨b2, o2, rfl, h2⟩
        · simp [h2] at e2
        have g1 := h1 k _ e1
        have g2 := h2 k _ e2
        clear h1 h2 e1 e2
        obtain ⟨x, hx⟩ : ∃ x, l1.getD k 0 = x := ⟨_, rfl⟩
        obtain ⟨y, hy⟩ : ∃ y, l2.getD k 0 = y := ⟨_, rfl⟩
        rw [hx] at g1
        rw [hy] at g2
        have HX := Lib.hid hx
        have HY := Lib.hid hy
        clear hx hy
        by_cases hxy : x = y
        · have HT : Hid (l1.take (k + 1) = l2.take (k + 1)) := Lib.hid (take_both (by omega) (by omega) HK.out (by rw [HX.out, HY.out, hxy]))
          subst hxy
          have hne : (x != x) = false := by simp
          go_wp2
          go_quiet (fail)
          go_wp2
          go_roundw
          case rel => exact ⟨k + 1, by go_num, by omega, HT.out, _, rfl⟩
          case measure => simp [intOf]; omega
        · have HF : Hid ((l1 == l2) = false) := Lib.hid (by
            rw [beq_eq_false_iff_ne]; intro e; apply hxy; rw [← HX.out, ← HY.out, e])
          have hne : (x != y) = true := by rw [bne_iff_ne]; exact hxy
          clear hxy
          go_wp2
          go_quiet (fail)
          go_wp2
          go_ret
          exact ⟨ret_bool HF.out.symm, _, by rw [World.drewN_drewN]⟩
      · have hkn : k = n := by omega
        subst hkn
        go_wp2
        go_ret
        exact ⟨ret_bool (by have := HK.out; rw [← hn1, List.take_length, hn1, ← hn2, List.take_length] at this; rw [this]; simp), _, rfl⟩
  · have hf : (l1 == l2) = false := by rw [beq_eq_false_iff_ne]; intro e; exact hl (by rw [e])
    rw [hf]
    have hne : ((l1.length : Int) != (l2.length : Int)) = true := by rw [bne_iff_ne]; omega
    clear hl
    go_enter Try.func138, Try.ntmps138
    go_wp2
    go_ret
    exact ⟨rfl, 0, rfl⟩
theorem info32 : (Try.prog.info? 21).map (fun i => (i.zero, i.size, i.bytes)) = some (some (.int .i32 0), 1, 4) := by kernel_rfl
theorem clone32_any (v : Value) (l : List Int) (w : World) (h : Holds w v (kv .i32 l)) (hl : l.length * 4 ≤ 140737488355328) :
    Calls Try.prog 43 #[v] w fun e w' => Fresh w 21 (kv .i32 l) e w' := by
  obtain ⟨i0, hi, hz0, hz1, hz2⟩ := info_parts info32
  obtain ⟨ao, cap, rfl, hcap, hmx, hh⟩ := h
  have q32 : ∀ (w : World) (a : Option Addr) (n c n' c' : Nat), (binOp .eql 26 (.slice a n c) (.slice none n' c')).run Try.prog w = .ok (.bool a.isNone) w := fun w a n c n' c' => Lib.run_eql_slice_nil w _ _ a n c n' c' Try.underlying26
  have u32 : ∀ w, Sem.run Try.prog (underlying 26) w = .ok (TypeDesc.slice 21) w := run_underlying Try.underlying26
  rw [kv_len] at hcap ⊢
  obtain ⟨n, hn⟩ : ∃ n, n = l.length := ⟨_, rfl⟩
  have HN := Lib.hid hn
  have HH := Lib.hid hh
  rw [← hn] at hl hcap ⊢
  clear hh hn
  cases ao with
  | none =>
    have hl0 : l = [] := by
      rcases HH.out with e | ⟨b, off, e, _⟩
      · simpa [kv] using e
      · simp at e
    have h0 : n = 0 := by rw [HN.out, hl0]; rfl
    subst h0
    go_enter Try.func43, Try.ntmps43
    go_wp2
    go_ret
    refine ⟨_, rfl, ?_, Below.refl _ _⟩
    rw [hl0]
    exact World.ownsRow_nil w _ _ _
  | some ad =>
    obtain ⟨w0, rfl⟩ : ∃ w0 : World, w0 = w := ⟨_, rfl⟩
    go_enter Try.func43, Try.ntmps43
    go_wp2_with (at_builtin; refine wpList_append_own _ rfl _ _ 26 rfl w0.heap.size 21 i0 (.int .i32 0) 1 4 Try.underlying26 hi hz0 hz1 hz2 rfl (by decide) _ _ _ rfl (World.ownsRow_made w0 #[] 0 (Nat.le_refl _) (Nat.zero_le _) rfl) ad n cap (kv .i32 l) rfl ?c1 ?c2 ?c3 ?c4 ?c5 ?c6 ?_)
    case c1 => rw [kv_len, ← HN.out]; omega
    case c2 =>
      intro j u hj
      rcases HH.out with e | ⟨b, off, e, hc⟩
      · rw [e] at hj; simp at hj
      · injection e with e; subst e
        rw [Addr.add_lit]
        exact Lib.cell?_alloc_some _ (hc j u hj)
    case c3 => intro u hu; obtain ⟨x, _, rfl⟩ := List.mem_map.1 hu; rfl
    case c4 => unfold maxLen; omega
    case c5 => omega
    case c6 => simp
    intro v' w1 hown hgrow hnil
    go_wp2
    go_ret
    refine ⟨v', rfl, by rw [kv_len, ← HN.out]; simpa using hown, ?_⟩
    exact ((Below.refl _ w0).alloc (Nat.le_refl _) _).grown hgrow (by simp) (by intro k hk; simp [Value.ownBlock] at hk; omega)
theorem infoB : (Try.prog.info? 5).map (fun i => (i.zero, i.size, i.bytes)) = some (some (.int .u8 0), 1, 1) := by kernel_rfl
theorem cloneB_any (v : Value) (l : List Int) (w : World) (h : Holds w v (kv .u8 l)) (hl : l.length * 1 ≤ 140737488355328) :
    Calls Try.prog 118 #[v] w fun e w' => Fresh w 5 (kv .u8 l) e w' := by
  obtain ⟨i0, hi, hz0, hz1, hz2⟩ := info_parts infoB
  obtain ⟨ao, cap, rfl, hcap, hmx, hh⟩ := h
  have q32 : ∀ (w : World) (a : Option Addr) (n c n' c' : Nat), (binOp .eql 64 (.slice a n c) (.slice none n' c')).run Try.prog w = .ok (.bool a.isNone) w := fun w a n c n' c' => Lib.run_eql_slice_nil w _ _ a n c n' c' Try.underlying64
  have u32 : ∀ w, Sem.run Try.prog (underlying 64) w = .ok (TypeDesc.slice 5) w := run_underlying Try.underlying64
  rw [kv_len] at hcap ⊢
  obtain ⟨n, hn⟩ : ∃ n, n = l.length := ⟨_, rfl⟩
  have HN := Lib.hid hn
  have HH := Lib.hid hh
  rw [← hn] at hl hcap ⊢
  clear hh hn
  cases ao with
  | none =>
    have hl0 : l = [] := by
      rcases HH.out with e | ⟨b, off, e, _⟩
      · simpa [kv] using e
      · simp at e
    have h0 : n = 0 := by rw [HN.out, hl0]; rfl
    subst h0
    go_enter Try.func118, Try.ntmps118
    go_wp2
    go_ret
    refine ⟨_, rfl, ?_, Below.refl _ _⟩
    rw [hl0]
    exact World.ownsRow_nil w _ _ _
  | some ad =>
    obtain ⟨w0, rfl⟩ : ∃ w0 : World, w0 = w := ⟨_, rfl⟩
    go_enter Try.func118, Try.ntmps118
    go_wp2_with (at_builtin; refine wpList_append_own _ rfl _ _ 64 rfl w0.heap.size 5 i0 (.int .u8 0) 1 1 Try.underlying64 hi hz0 hz1 hz2 rfl (by decide) _ _ _ rfl (World.ownsRow_made w0 #[] 0 (Nat.le_refl _) (Nat.zero_le _) rfl) ad n cap (kv .u8 l) rfl ?c1 ?c2 ?c3 ?c4 ?c5 ?c6 ?_)
    case c1 => rw [kv_len, ← HN.out]; omega
    case c2 =>
      intro j u hj
      rcases HH.out with e | ⟨b, off, e, hc⟩
      · rw [e] at hj; simp at hj
      · injection e with e; subst e
        rw [Addr.add_lit]
        exact Lib.cell?_alloc_some _ (hc j u hj)
    case c3 => intro u hu; obtain ⟨x, _, rfl⟩ := List.mem_map.1 hu; rfl
    case c4 => unfold maxLen; omega
    case c5 => omega
    case c6 => simp
    intro v' w1 hown hgrow hnil
    go_wp2
    go_ret
    refine ⟨v', rfl, by rw [kv_len, ← HN.out]; simpa using hown, ?_⟩
    exact ((Below.refl _ w0).alloc (Nat.le_refl _) _).grown hgrow (by simp) (by intro k hk; simp [Value.ownBlock] at hk; omega)
end Go.Proofs.Ytekokhlldcmjfaa
