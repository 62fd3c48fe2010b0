/- Tensors, sums: may they be. -/
import Derived.Test.YtekokhlldcmjfaaProg
import Derived.Test.YtekokhlldcmjfaaOpen
import Derived.Test.YtekokhlldcmjfaaShape0
namespace Go.Proofs.Ytekokhlldcmjfaa
open Go.RowKit
set_option maxHeartbeats 1000000
def expB (e m : Int) : Bool := decide (-m ≤ e) && decide (e ≤ m)
theorem mayExp_any (e m : Int) (w : World) (h0 : 0 ≤ m) (h1 : m ≤ 128) : Calls Try.prog 108 #[.int .i64 e, .int .i64 m] w fun r w' => r = .returned (.bool (expB e m)) ∧ w = w' := by
  unfold expB
  by_cases h : -m ≤ e
  · by_cases h2 : e ≤ m
    · rw [decide_eq_true h, decide_eq_true h2]
      go_enter Try.func108, Try.ntmps108
      go_wp2
      go_ret
      exact ⟨rfl, rfl⟩
    · rw [decide_eq_true h, decide_eq_false h2]
      have h3 : m < e := by omega
      go_enter Try.func108, Try.ntmps108
      go_wp2
      go_ret
      exact ⟨rfl, rfl⟩
  · rw [decide_eq_false h]
    have h3 : e < -m := by omega
    go_enter Try.func108, Try.ntmps108
    go_wp2
    go_ret
    exact ⟨rfl, rfl⟩
/-- Where x stands first, or -1. -/
def idxOf (x : Int) : Nat → List Int → Int
  | _, [] => -1
  | k, y :: l => if x = y then (k : Int) else idxOf x (k + 1) l
theorem idxOf_ge (x : Int) : ∀ (l : List Int) (k : Nat), decide (0 ≤ idxOf x k l) = l.contains x
  | [], k => by simp [idxOf]
  | y :: l, k => by
    unfold idxOf
    by_cases h : x = y
    · rw [if_pos h, h]; simp
    · rw [if_neg h, idxOf_ge x l (k + 1), List.contains_cons]
      simp [h]
theorem index8_any (v : Value) (l : List Int) (x : Int) (w : World) (hr : Reads .i8 w v l) :
    Calls Try.prog 140 #[v, .int .i8 x] w fun r w' => r = .returned (.int .i64 (idxOf x 0 l)) ∧ w = w' := by
  obtain ⟨⟨ao, cap, rfl, _, _, h⟩, _, hm⟩ := hr
  unfold maxLen at hm
  rw [kv_len] at *
  obtain ⟨n, hn⟩ : ∃ n, l.length = n := ⟨_, rfl⟩
  obtain ⟨R, hR⟩ : ∃ R, idxOf x 0 l = R := ⟨_, rfl⟩
  rw [hn] at hm ⊢
  rw [hR]
  have HR := Lib.hid hR
  clear hR
  go_enter Try.func140, Try.ntmps140
  go_wp2
  go_loop [8] (fun c => ∃ (k : Nat), c = .int .i64 k ∧ k ≤ n ∧ idxOf x k (l.drop k) = R) (fun c => n - (intOf c).toNat)
  case atStart => exact ⟨0, rfl, by omega, HR.out⟩
  case round =>
    obtain ⟨k, rfl, hk, hS⟩ := hrel
    have HS := Lib.hid hS
    clear hS
    by_cases hlt : k < n
    · have e1 := kv_getD .i8 l k (by omega)
      rcases h with h | ⟨b1, o1, rfl, h⟩
      · simp [h] at e1
      have g1 := h k _ e1
      have hdr := drop_getD l k (by omega)
      obtain ⟨y, hy⟩ : ∃ y, l.getD k 0 = y := ⟨_, rfl⟩
      rw [hy] at g1 hdr
      have HD : Hid (idxOf x k (y :: l.drop (k + 1)) = R) := Lib.hid (by have := HS.out; rw [hdr] at this; exact this)
      clear e1 h hdr hy
      by_cases hxy : x = y
      · have hRk : Hid (R = (k : Int)) := Lib.hid (by have := HD.out; rw [idxOf, if_pos hxy] at this; exact this.symm)
        subst hxy
        go_wp2
        go_ret
        exact ⟨ret_int hRk.out.symm, rfl⟩
      · have HN : Hid (idxOf x (k + 1) (l.drop (k + 1)) = R) := Lib.hid (by have := HD.out; rw [idxOf, if_neg hxy] at this; exact this)
        have hne : (x == y) = false := by rw [beq_eq_false_iff_ne]; exact hxy
        go_wp2
        go_round
        case rel => exact ⟨k + 1, by go_num, by omega, HN.out⟩
        case measure => simp [intOf]; omega
    · have hkn : k = n := by omega
      subst hkn
      go_wp2
      go_ret
      exact ⟨ret_int (by have := HS.out; rw [← hn, List.drop_length, idxOf] at this; exact this), rfl⟩
theorem contains8_any (v : Value) (l : List Int) (x : Int) (w : World) (hr : Reads .i8 w v l) :
    Calls Try.prog 131 #[v, .int .i8 x] w fun r w' => r = .returned (.bool (l.contains x)) ∧ w = w' := by
  have HR := Lib.hid hr
  have HG := Lib.hid (idxOf_ge x l 0)
  clear hr
  go_enter Try.func131, Try.ntmps131
  go_wp2_with (go_at_call 140; refine (index8_any _ _ _ _ HR.out).mono ?_; rintro e w' ⟨rfl, rfl⟩)
  go_ret
  exact ⟨ret_bool HG.out, rfl⟩
def mayB (t : Tn) : Bool := mayD t.dims && decide ((t.data.length : Int) = szD t.dims) && expB t.exp 64 && !(t.data.contains (-128))
theorem may_is (v : Value) (l : List Int) (w : World) (hr : Reads .i64 w v l) (b : Bool) (hb : mayD l = b) : Calls Try.prog 129 #[v] w fun e w' => e = .returned (.bool b) ∧ w = w' := hb ▸ may_any v l w hr
theorem size_is (v : Value) (l : List Int) (w : World) (hr : Reads .i64 w v l) (z : Int) (hz : szD l = z) : Calls Try.prog 130 #[v] w fun e w' => e = .returned (.int .i64 z) ∧ w = w' := hz ▸ size_any v l w hr
theorem mayExp_is (e m : Int) (w : World) (h0 : 0 ≤ m) (h1 : m ≤ 128) (b : Bool) (hb : expB e m = b) : Calls Try.prog 108 #[.int .i64 e, .int .i64 m] w fun r w' => r = .returned (.bool b) ∧ w = w' := hb ▸ mayExp_any e m w h0 h1
theorem contains8_is (v : Value) (l : List Int) (x : Int) (w : World) (hr : Reads .i8 w v l) (b : Bool) (hb : l.contains x = b) :
    Calls Try.prog 131 #[v, .int .i8 x] w fun r w' => r = .returned (.bool b) ∧ w = w' := hb ▸ contains8_any v l x w hr
theorem may_q {v : Value} {l : List Int} {w : World} (hr : Reads .i64 w v l) {b : Bool} (hb : mayD l = b) (n : Nat) : Calls Try.prog 129 #[v] (w.drewN n) fun e w'' => e = .returned (.bool b) ∧ ∃ m, w'' = w.drewN m := qleft (may_is v l (w.drewN n) hr b hb)
theorem size_q {v : Value} {l : List Int} {w : World} (hr : Reads .i64 w v l) {z : Int} (hz : szD l = z) (n : Nat) : Calls Try.prog 130 #[v] (w.drewN n) fun e w'' => e = .returned (.int .i64 z) ∧ ∃ m, w'' = w.drewN m := qleft (size_is v l (w.drewN n) hr z hz)
theorem mayExp_q {e m : Int} (w : World) (h0 : 0 ≤ m) (h1 : m ≤ 128) {b : Bool} (hb : expB e m = b) (n : Nat) : Calls Try.prog 108 #[.int .i64 e, .int .i64 m] (w.drewN n) fun r w'' => r = .returned (.bool b) ∧ ∃ m, w'' = w.drewN m := qleft (mayExp_is e m (w.drewN n) h0 h1 b hb)
theorem contains8_q {v : Value} {l : List Int} {x : Int} {w : World} (hr : Reads .i8 w v l) {b : Bool} (hb : l.contains x = b) (n : Nat) :
    Calls Try.prog 131 #[v, .int .i8 x] (w.drewN n) fun r w'' => r = .returned (.bool b) ∧ ∃ m, w'' = w.drewN m := qleft (contains8_is v l x (w.drewN n) hr b hb)
theorem below_drewN' {B : Nat} {a w : World} (h : Below B a w) (n : Nat) : Below B a (w.drewN n) := by
  induction n with
  | zero => exact h
  | succ n ih => exact ih.drew
theorem mayT_any (v : Value) (t : Tn) (w : World) (h : RT .i8 w v t) :
    Calls Try.prog 102 #[v] w fun r w' => r = .returned (.bool (mayB t)) ∧ Below w.heap.size w w' := by
  obtain ⟨d, a, rfl, hd, ha, hw⟩ := h
  obtain ⟨D, e, A⟩ := t
  simp only at hd ha hw ⊢
  obtain ⟨ao, cap, hav, _⟩ := ha.1
  rw [kv_len] at hav
  obtain ⟨n, hn⟩ : ∃ n, A.length = n := ⟨_, rfl⟩
  rw [hn] at hav
  subst hav
  have hb : Below w.heap.size w (w.alloc (.cells #[d, .int .i64 e, .slice ao n cap] 25)) := (Below.refl _ _).alloc (Nat.le_refl _) _
  have HD := Lib.hid (hd.below hb)
  have HA := Lib.hid (ha.below hb)
  have HB := Lib.hid hb
  obtain ⟨z, hz⟩ : ∃ z, szD D = z := ⟨_, rfl⟩
  unfold mayB
  simp only [hz, hn]
  have HZ := Lib.hid hz
  clear hd hb ha hz hn
  by_cases h1 : mayD D = true
  · have H1 := Lib.hid h1
    rw [h1]
    clear h1
    by_cases h2 : (n : Int) = z
    · have h2' : ((n : Int) == z) = true := beq_iff_eq.2 h2
      rw [decide_eq_true h2]
      clear h2
      by_cases h3 : expB e 64 = true
      · have H3 := Lib.hid h3
        rw [h3]
        clear h3
        obtain ⟨b, hb⟩ : ∃ b, A.contains (-128) = b := ⟨_, rfl⟩
        have H4 := Lib.hid hb
        rw [hb]
        clear hb
        go_enter Try.func102, Try.ntmps102
        go_wp2_with fail
        go_quiet ((first | (go_at_call 129; exact may_q HD.out H1.out _) | (go_at_call 130; exact size_q HD.out HZ.out _) | (go_at_call 108; exact mayExp_q _ (by decide) (by decide) H3.out _) | (go_at_call 131; exact contains8_q HA.out H4.out _)))
        go_wp2
        go_ret
        exact ⟨ret_bool (by simp), below_drewN' HB.out _⟩
      · have h3 : expB e 64 = false := by simpa using h3
        have H3 := Lib.hid h3
        rw [h3]
        clear h3
        go_enter Try.func102, Try.ntmps102
        go_wp2_with fail
        go_quiet ((first | (go_at_call 129; exact may_q HD.out H1.out _) | (go_at_call 130; exact size_q HD.out HZ.out _) | (go_at_call 108; exact mayExp_q _ (by decide) (by decide) H3.out _)))
        go_wp2
        go_ret
        exact ⟨ret_bool (by simp), below_drewN' HB.out _⟩
    · have h2' : ((n : Int) == z) = false := beq_eq_false_iff_ne.2 h2
      rw [decide_eq_false h2]
      clear h2
      go_enter Try.func102, Try.ntmps102
      go_wp2_with fail
      go_quiet ((first | (go_at_call 129; exact may_q HD.out H1.out _) | (go_at_call 130; exact size_q HD.out HZ.out _)))
      go_wp2
      go_ret
      exact ⟨ret_bool (by simp), below_drewN' HB.out _⟩
  · have h1 : mayD D = false := by simpa using h1
    have H1 := Lib.hid h1
    rw [h1]
    clear h1
    go_enter Try.func102, Try.ntmps102
    go_wp2_with fail
    go_quiet ((go_at_call 129; exact may_q HD.out H1.out _))
    go_wp2
    go_ret
    exact ⟨ret_bool (by simp), below_drewN' HB.out _⟩
end Go.Proofs.Ytekokhlldcmjfaa
