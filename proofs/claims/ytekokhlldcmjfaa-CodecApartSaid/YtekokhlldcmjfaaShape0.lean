/- Rows of lengths: May, Size, Strides, Same. -/
import Derived.Test.YtekokhlldcmjfaaProg
import Derived.Test.YtekokhlldcmjfaaBv
import Derived.Test.YtekokhlldcmjfaaMem
namespace Go.Proofs.Ytekokhlldcmjfaa
open Go.RowKit
set_option maxHeartbeats 1000000
def mayFrom : Int → List Int → Bool
  | a, [] => decide (a ≤ 8192)
  | a, x :: l => if x < 1 ∨ 4096 < x then false else mayFrom (a * x) l
def rmayFrom : Int → List Int → Bool
  | _, [] => true
  | a, x :: l => if x < 1 ∨ 4096 < x ∨ 8192 / x < a then false else rmayFrom (a * x) l
def mayD (l : List Int) : Bool := if l.length < 1 ∨ 4 < l.length then false else mayFrom 1 l
theorem mayFrom_big (a : Int) (l : List Int) (h : 8192 < a) : mayFrom a l = false := by
  induction l generalizing a with
  | nil => simp [mayFrom]; omega
  | cons x l ih =>
    unfold mayFrom
    split
    · rfl
    · have hx : 1 ≤ x := by omega
      have := Int.mul_le_mul_of_nonneg_left hx (show 0 ≤ a by omega)
      exact ih _ (by omega)
theorem quo_lt (a x : Int) (hx : 1 ≤ x) : 8192 / x < a ↔ 8192 < a * x := by
  rw [Int.ediv_lt_iff_lt_mul (by omega)]
theorem rmay_eq (a : Int) (l : List Int) (h0 : 1 ≤ a) (h : a ≤ 8192) : rmayFrom a l = mayFrom a l := by
  induction l generalizing a with
  | nil => simp [rmayFrom, mayFrom]; exact h
  | cons x l ih =>
    unfold rmayFrom mayFrom
    by_cases hx : x < 1 ∨ 4096 < x
    · rw [if_pos hx, if_pos (by omega)]
    · rw [if_neg hx]
      have hq := quo_lt a x (by omega)
      have hm := Int.mul_le_mul_of_nonneg_left (show 1 ≤ x by omega) (show 0 ≤ a by omega)
      by_cases h2 : 8192 < a * x
      · rw [if_pos (by omega), mayFrom_big _ _ h2]
      · rw [if_neg (by omega)]
        exact ih _ (by omega) (by omega)
theorem pow4 (k : Nat) (h : k ≤ 3) : (4096 : Int) ^ k ≤ 68719476736 ∧ (1 : Int) ≤ 4096 ^ k := by
  rcases (show k = 0 ∨ k = 1 ∨ k = 2 ∨ k = 3 by omega) with rfl | rfl | rfl | rfl <;> decide
theorem may_any (v : Value) (l : List Int) (w : World) (hr : Reads .i64 w v l) :
    Calls Try.prog 129 #[v] w fun e w' => e = .returned (.bool (mayD l)) ∧ w = w' := by
  obtain ⟨⟨ao, cap, rfl, hcl, hcm, h⟩, _, hm⟩ := hr
  unfold maxLen at hm
  simp only [List.length_map] at h ⊢
  obtain ⟨n, hn⟩ : ∃ n, l.length = n := ⟨_, rfl⟩
  unfold mayD
  rw [hn] at hm ⊢
  by_cases hlen : n < 1 ∨ 4 < n
  · rw [if_pos hlen]
    rcases hlen with hl | hl
    · go_enter Try.func129, Try.ntmps129
      go_wp2
      go_ret
      exact ⟨rfl, rfl⟩
    · have h1 : ¬ n < 1 := by omega
      go_enter Try.func129, Try.ntmps129
      go_wp2
      go_ret
      exact ⟨rfl, rfl⟩
  · rw [if_neg hlen]
    obtain ⟨R, hR⟩ : ∃ R, mayFrom 1 l = R := ⟨_, rfl⟩
    rw [hR]
    have HR := Lib.hid hR
    clear hR
    go_enter Try.func129, Try.ntmps129
    go_wp2
    go_loop [3, 16] (fun s c => ∃ (k : Nat) (a : Int), c = .int .i64 k ∧ s = .int .i64 a ∧ k ≤ n ∧ 1 ≤ a ∧ a ≤ 4096 ^ k ∧ mayFrom a (l.drop k) = R) (fun _ c => n - (intOf c).toNat)
    case atStart => exact ⟨0, 1, rfl, rfl, by omega, by omega, by decide, HR.out⟩
    case round =>
      obtain ⟨k, a, rfl, rfl, hk, ha, ha2, hS⟩ := hrel
      have HS := Lib.hid hS
      clear hS
      by_cases hlt : k < n
      · have e1 := kv_getD .i64 l k (by omega)
        rcases h with h | ⟨b1, o1, rfl, h⟩
        · simp [h] at e1
        have g1 := h k _ e1
        have hdr := drop_getD l k (by omega)
        obtain ⟨x, hx⟩ : ∃ x, l.getD k 0 = x := ⟨_, rfl⟩
        rw [hx] at g1 hdr
        have HD : Hid (mayFrom a (x :: l.drop (k + 1)) = R) := Lib.hid (by have := HS.out; rw [hdr] at this; exact this)
        have hp := pow4 k (by omega)
        have hps : (4096 : Int) ^ (k + 1) = 4096 ^ k * 4096 := Int.pow_succ _ _
        clear e1 h hx hdr
        by_cases hx0 : x < 1 ∨ 4096 < x
        · have hf : Hid (R = false) := Lib.hid (by have := HD.out; rw [mayFrom, if_pos hx0] at this; exact this.symm)
          rcases hx0 with hx0 | hx0
          · clear hps
            go_wp2
            go_ret
            exact ⟨ret_bool hf.out.symm, rfl⟩
          · have hx1 : ¬ x < 1 := by omega
            clear hps
            go_wp2
            go_ret
            exact ⟨ret_bool hf.out.symm, rfl⟩
        · have HN : Hid (mayFrom (a * x) (l.drop (k + 1)) = R) := Lib.hid (by have := HD.out; rw [mayFrom, if_neg hx0] at this; exact this)
          have hm1 := Int.mul_le_mul_of_nonneg_left (show 1 ≤ x by omega) (show 0 ≤ a by omega)
          have hm2 := Int.mul_le_mul_of_nonneg_left (show x ≤ 4096 by omega) (show 0 ≤ a by omega)
          have hm3 : 1 ≤ a * x := by omega
          have hm4 : a * x ≤ 4096 ^ k * 4096 := by omega
          have HP := Lib.hid hps
          clear hm1 hm2 hps
          go_wp2
          go_round
          case rel => exact ⟨k + 1, a * x, by go_num, rfl, by omega, hm3, by rw [HP.out]; exact hm4, HN.out⟩
          case measure => simp [intOf]; omega
      · have hkn : k = n := by omega
        subst hkn
        go_wp2
        go_ret
        exact ⟨ret_bool (by have := HS.out; rw [← hn, List.drop_length] at this; exact this), rfl⟩
theorem rmay_any (v : Value) (l : List Int) (w : World) (hr : Reads .i64 w v l) :
    Calls Try.prog 71 #[v] w fun e w' => e = .returned (.bool (mayD l)) ∧ w = w' := by
  obtain ⟨⟨ao, cap, rfl, hcl, hcm, h⟩, _, hm⟩ := hr
  unfold maxLen at hm
  simp only [List.length_map] at h ⊢
  obtain ⟨n, hn⟩ : ∃ n, l.length = n := ⟨_, rfl⟩
  unfold mayD
  rw [hn] at hm ⊢
  by_cases hlen : n < 1 ∨ 4 < n
  · rw [if_pos hlen]
    rcases hlen with hl | hl
    · go_enter Try.func71, Try.ntmps71
      go_wp2
      go_ret
      exact ⟨rfl, rfl⟩
    · have h1 : ¬ n < 1 := by omega
      go_enter Try.func71, Try.ntmps71
      go_wp2
      go_ret
      exact ⟨rfl, rfl⟩
  · rw [if_neg hlen, ← rmay_eq 1 l (by omega) (by omega)]
    obtain ⟨R, hR⟩ : ∃ R, rmayFrom 1 l = R := ⟨_, rfl⟩
    rw [hR]
    have HR := Lib.hid hR
    clear hR
    go_enter Try.func71, Try.ntmps71
    go_wp2
    go_loop [3, 16] (fun s c => ∃ (k : Nat) (a : Int), c = .int .i64 k ∧ s = .int .i64 a ∧ k ≤ n ∧ 1 ≤ a ∧ a ≤ 8192 ∧ rmayFrom a (l.drop k) = R) (fun _ c => n - (intOf c).toNat)
    case atStart => exact ⟨0, 1, rfl, rfl, by omega, by omega, by decide, HR.out⟩
    case round =>
      obtain ⟨k, a, rfl, rfl, hk, ha, ha2, hS⟩ := hrel
      have HS := Lib.hid hS
      clear hS
      by_cases hlt : k < n
      · have e1 := kv_getD .i64 l k (by omega)
        rcases h with h | ⟨b1, o1, rfl, h⟩
        · simp [h] at e1
        have g1 := h k _ e1
        have hdr := drop_getD l k (by omega)
        obtain ⟨x, hx⟩ : ∃ x, l.getD k 0 = x := ⟨_, rfl⟩
        rw [hx] at g1 hdr
        have HD : Hid (rmayFrom a (x :: l.drop (k + 1)) = R) := Lib.hid (by have := HS.out; rw [hdr] at this; exact this)
        clear e1 h hx hdr
        by_cases hx0 : x < 1 ∨ 4096 < x ∨ 8192 / x < a
        · have hf : Hid (R = false) := Lib.hid (by have := HD.out; rw [rmayFrom, if_pos hx0] at this; exact this.symm)
          by_cases h1 : x < 1
          · clear hx0
            go_wp2
            go_ret
            exact ⟨ret_bool hf.out.symm, rfl⟩
          · by_cases h2 : 4096 < x
            · clear hx0
              go_wp2
              go_ret
              exact ⟨ret_bool hf.out.symm, rfl⟩
            · have h3 : 8192 / x < a := by omega
              clear hx0
              go_wp2
              go_ret
              exact ⟨ret_bool hf.out.symm, rfl⟩
        · have HN : Hid (rmayFrom (a * x) (l.drop (k + 1)) = R) := Lib.hid (by have := HD.out; rw [rmayFrom, if_neg hx0] at this; exact this)
          have hm1 := Int.mul_le_mul_of_nonneg_left (show 1 ≤ x by omega) (show 0 ≤ a by omega)
          have hq := quo_lt a x (by omega)
          have hm3 : 1 ≤ a * x := by omega
          have hm4 : a * x ≤ 8192 := by omega
          have h1 : ¬ x < 1 := by omega
          have h2 : ¬ 4096 < x := by omega
          have h3 : ¬ 8192 / x < a := by omega
          clear hm1 hq hx0
          go_wp2
          go_round
          case rel => exact ⟨k + 1, a * x, by go_num, rfl, by omega, hm3, hm4, HN.out⟩
          case measure => simp [intOf]; omega
      · have hkn : k = n := by omega
        subst hkn
        go_wp2
        go_ret
        exact ⟨ret_bool (by have := HS.out; rw [← hn, List.drop_length] at this; exact this), rfl⟩
def prodFrom (a : Int) (l : List Int) : Int := l.foldl (· * ·) a
theorem prodFrom_cons (a x : Int) (l : List Int) : prodFrom a (x :: l) = prodFrom (a * x) l := rfl
theorem prodFrom_mul (a b : Int) (l : List Int) : prodFrom (a * b) l = a * prodFrom b l := by
  induction l generalizing b with
  | nil => rfl
  | cons x l ih => rw [prodFrom_cons, prodFrom_cons, Int.mul_assoc, ih]
theorem prodFrom_one (a : Int) (l : List Int) : prodFrom a l = a * prodFrom 1 l := by rw [← prodFrom_mul, Int.mul_one]
/-- What lengths that may be are. -/
theorem mayFrom_iff (a : Int) (l : List Int) (ha : 1 ≤ a) : mayFrom a l = true ↔ (∀ x ∈ l, 1 ≤ x ∧ x ≤ 4096) ∧ prodFrom a l ≤ 8192 := by
  induction l generalizing a with
  | nil => simp [mayFrom, prodFrom]
  | cons x l ih =>
    unfold mayFrom
    by_cases hx : x < 1 ∨ 4096 < x
    · rw [if_pos hx]
      constructor
      · intro h; cases h
      · intro h; have := h.1 x (by simp); omega
    · rw [if_neg hx]
      have := Int.mul_le_mul_of_nonneg_left (show 1 ≤ x by omega) (show 0 ≤ a by omega)
      rw [ih (a * x) (by omega), prodFrom_cons]
      constructor
      · rintro ⟨h1, h2⟩
        exact ⟨fun y hy => by rcases List.mem_cons.1 hy with rfl | hy; omega; exact h1 y hy, h2⟩
      · rintro ⟨h1, h2⟩
        exact ⟨fun y hy => h1 y (List.mem_cons_of_mem _ hy), h2⟩
theorem mayD_iff (l : List Int) : mayD l = true ↔ (1 ≤ l.length ∧ l.length ≤ 4) ∧ (∀ x ∈ l, 1 ≤ x ∧ x ≤ 4096) ∧ prodFrom 1 l ≤ 8192 := by
  unfold mayD
  by_cases h : l.length < 1 ∨ 4 < l.length
  · rw [if_pos h]
    constructor
    · intro h; cases h
    · intro h; omega
  · rw [if_neg h, mayFrom_iff 1 l (by omega)]
    constructor
    · intro h2; exact ⟨by omega, h2⟩
    · intro h2; exact h2.2
theorem prodFrom_pos (a : Int) (l : List Int) (ha : 1 ≤ a) (h : ∀ x ∈ l, 1 ≤ x ∧ x ≤ 4096) : a ≤ prodFrom a l := by
  induction l generalizing a with
  | nil => exact Int.le_refl _
  | cons x l ih =>
    have h1 := (h x (by simp)).1
    have := Int.mul_le_mul_of_nonneg_left h1 (show 0 ≤ a by omega)
    have := ih (a * x) (by omega) (fun y hy => h y (List.mem_cons_of_mem _ hy))
    rw [prodFrom_cons]
    omega
def szD (l : List Int) : Int := if mayD l then prodFrom 1 l else 0
theorem size_any (v : Value) (l : List Int) (w : World) (hr : Reads .i64 w v l) :
    Calls Try.prog 130 #[v] w fun e w' => e = .returned (.int .i64 (szD l)) ∧ w = w' := by
  have HRE := Lib.hid hr
  obtain ⟨⟨ao, cap, rfl, hcl, hcm, h⟩, _, hm⟩ := hr
  unfold maxLen at hm
  have hll : (kv .i64 l).length = l.length := kv_len _ _
  rw [hll] at HRE ⊢
  clear hll
  obtain ⟨n, hn⟩ : ∃ n, l.length = n := ⟨_, rfl⟩
  rw [hn] at HRE hm ⊢
  unfold szD
  by_cases hmay : mayD l = true
  · rw [if_pos hmay]
    obtain ⟨h4, hx4, hp⟩ := (mayD_iff l).1 hmay
    have HM := Lib.hid hmay
    have HX := Lib.hid hx4
    clear hmay hx4
    obtain ⟨R, hR⟩ : ∃ R, prodFrom 1 l = R := ⟨_, rfl⟩
    rw [hR] at hp ⊢
    have HR := Lib.hid hR
    clear hR
    go_enter Try.func130, Try.ntmps130
    go_wp2_with (go_at_call 129; refine (may_any _ _ _ HRE.out).mono ?_; rintro e w' ⟨rfl, rfl⟩; rw [HM.out])
    go_loop [3, 11] (fun s c => ∃ (k : Nat) (a : Int), c = .int .i64 k ∧ s = .int .i64 a ∧ k ≤ n ∧ 1 ≤ a ∧ prodFrom a (l.drop k) = R) (fun _ c => n - (intOf c).toNat)
    case atStart => exact ⟨0, 1, rfl, rfl, by omega, by omega, HR.out⟩
    case round =>
      obtain ⟨k, a, rfl, rfl, hk, ha, hS⟩ := hrel
      have HS := Lib.hid hS
      clear hS
      by_cases hlt : k < n
      · have e1 := kv_getD .i64 l k (by omega)
        rcases h with h | ⟨b1, o1, rfl, h⟩
        · simp [h] at e1
        have g1 := h k _ e1
        have hdr := drop_getD l k (by omega)
        have hxm : l.getD k 0 ∈ l := by rw [List.getD_eq_getElem?_getD, List.getElem?_eq_getElem (by omega)]; exact List.getElem_mem _
        have hx4 := HX.out _ hxm
        obtain ⟨x, hx⟩ : ∃ x, l.getD k 0 = x := ⟨_, rfl⟩
        rw [hx] at g1 hdr hx4
        have HN : Hid (prodFrom (a * x) (l.drop (k + 1)) = R) := Lib.hid (by have := HS.out; rw [hdr] at this; exact this)
        have hm1 := Int.mul_le_mul_of_nonneg_left hx4.1 (show 0 ≤ a by omega)
        have hm3 : 1 ≤ a * x := by omega
        have hm4 : a * x ≤ 8192 := by
          have := prodFrom_pos (a * x) (l.drop (k + 1)) hm3 (fun y hy => HX.out y (List.mem_of_mem_drop hy))
          rw [HN.out] at this
          omega
        clear e1 h hx hdr hm1 hxm
        go_wp2
        go_round
        case rel => exact ⟨k + 1, a * x, by go_num, rfl, by omega, hm3, HN.out⟩
        case measure => simp [intOf]; omega
      · have hkn : k = n := by omega
        subst hkn
        go_wp2
        go_ret
        exact ⟨ret_int (by have := HS.out; rw [← hn, List.drop_length] at this; exact this), rfl⟩
  · rw [if_neg hmay]
    have HM : Hid (mayD l = false) := Lib.hid (by simpa using hmay)
    clear hmay
    go_enter Try.func130, Try.ntmps130
    go_wp2_with (go_at_call 129; refine (may_any _ _ _ HRE.out).mono ?_; rintro e w' ⟨rfl, rfl⟩; rw [HM.out])
    go_ret
    exact ⟨rfl, rfl⟩
theorem rsize_any (v : Value) (l : List Int) (w : World) (hr : Reads .i64 w v l) :
    Calls Try.prog 72 #[v] w fun e w' => e = .returned (.int .i64 (szD l)) ∧ w = w' := by
  have HRE := Lib.hid hr
  obtain ⟨⟨ao, cap, rfl, hcl, hcm, h⟩, _, hm⟩ := hr
  unfold maxLen at hm
  have hll : (kv .i64 l).length = l.length := kv_len _ _
  rw [hll] at HRE ⊢
  clear hll
  obtain ⟨n, hn⟩ : ∃ n, l.length = n := ⟨_, rfl⟩
  rw [hn] at HRE hm ⊢
  unfold szD
  by_cases hmay : mayD l = true
  · rw [if_pos hmay]
    obtain ⟨h4, hx4, hp⟩ := (mayD_iff l).1 hmay
    have HM := Lib.hid hmay
    have HX := Lib.hid hx4
    clear hmay hx4
    obtain ⟨R, hR⟩ : ∃ R, prodFrom 1 l = R := ⟨_, rfl⟩
    rw [hR] at hp ⊢
    have HR := Lib.hid hR
    clear hR
    go_enter Try.func72, Try.ntmps72
    go_wp2_with (go_at_call 71; refine (rmay_any _ _ _ HRE.out).mono ?_; rintro e w' ⟨rfl, rfl⟩; rw [HM.out])
    go_loop [3, 11] (fun s c => ∃ (k : Nat) (a : Int), c = .int .i64 k ∧ s = .int .i64 a ∧ k ≤ n ∧ 1 ≤ a ∧ prodFrom a (l.drop k) = R) (fun _ c => n - (intOf c).toNat)
    case atStart => exact ⟨0, 1, rfl, rfl, by omega, by omega, HR.out⟩
    case round =>
      obtain ⟨k, a, rfl, rfl, hk, ha, hS⟩ := hrel
      have HS := Lib.hid hS
      clear hS
      by_cases hlt : k < n
      · have e1 := kv_getD .i64 l k (by omega)
        rcases h with h | ⟨b1, o1, rfl, h⟩
        · simp [h] at e1
        have g1 := h k _ e1
        have hdr := drop_getD l k (by omega)
        have hxm : l.getD k 0 ∈ l := by rw [List.getD_eq_getElem?_getD, List.getElem?_eq_getElem (by omega)]; exact List.getElem_mem _
        have hx4 := HX.out _ hxm
        obtain ⟨x, hx⟩ : ∃ x, l.getD k 0 = x := ⟨_, rfl⟩
        rw [hx] at g1 hdr hx4
        have HN : Hid (prodFrom (a * x) (l.drop (k + 1)) = R) := Lib.hid (by have := HS.out; rw [hdr] at this; exact this)
        have hm1 := Int.mul_le_mul_of_nonneg_left hx4.1 (show 0 ≤ a by omega)
        have hm3 : 1 ≤ a * x := by omega
        have hm4 : a * x ≤ 8192 := by
          have := prodFrom_pos (a * x) (l.drop (k + 1)) hm3 (fun y hy => HX.out y (List.mem_of_mem_drop hy))
          rw [HN.out] at this
          omega
        clear e1 h hx hdr hm1 hxm
        go_wp2
        go_round
        case rel => exact ⟨k + 1, a * x, by go_num, rfl, by omega, hm3, HN.out⟩
        case measure => simp [intOf]; omega
      · have hkn : k = n := by omega
        subst hkn
        go_wp2
        go_ret
        exact ⟨ret_int (by have := HS.out; rw [← hn, List.drop_length] at this; exact this), rfl⟩
  · rw [if_neg hmay]
    have HM : Hid (mayD l = false) := Lib.hid (by simpa using hmay)
    clear hmay
    go_enter Try.func72, Try.ntmps72
    go_wp2_with (go_at_call 71; refine (rmay_any _ _ _ HRE.out).mono ?_; rintro e w' ⟨rfl, rfl⟩; rw [HM.out])
    go_ret
    exact ⟨rfl, rfl⟩
theorem sameInts_any (v1 v2 : Value) (l1 l2 : List Int) (w : World) (h1 : Reads .i64 w v1 l1) (h2 : Reads .i64 w v2 l2) :
    Calls Try.prog 55 #[v1, v2] w fun e w' => e = .returned (.bool (l1 == l2)) ∧ ∃ n, w' = w.drewN n := by
  obtain ⟨⟨a1, c1, rfl, _, _, h1⟩, _, hm1⟩ := h1
  obtain ⟨⟨a2, c2, rfl, _, _, h2⟩, _, hm2⟩ := h2
  unfold maxLen at hm1 hm2
  simp only [List.length_map] at h1 h2 ⊢
  by_cases hl : l1.length = l2.length
  · obtain ⟨n, hn1, hn2⟩ : ∃ n, l1.length = n ∧ l2.length = n := ⟨_, rfl, hl.symm⟩
    rw [hn1] at hm1 hl ⊢
    rw [hn2] at hm2 ⊢
    clear hl
    obtain ⟨wo, rfl⟩ : ∃ wo : World, wo = w := ⟨_, rfl⟩
    go_enter Try.func55, Try.ntmps55
    go_wp2
    go_loopw [13] (fun c wr => ∃ k : Nat, c = .int .i64 k ∧ k ≤ n ∧ l1.take k = l2.take k ∧ ∃ m, wr = wo.drewN m) (fun c _ => n - (intOf c).toNat)
    case atStart => exact ⟨0, rfl, by omega, by simp, 0, rfl⟩
    case round =>
      obtain ⟨k, rfl, hk, hkk, m, rfl⟩ := hrel
      have HK := Lib.hid hkk
      clear hkk
      by_cases hlt : k < n
      · have e1 : (kv .i64 l1)[k]? = some (.int .i64 (l1.getD k 0)) := kv_getD .i64 l1 k (by omega)
        have e2 : (kv .i64 l2)[k]? = some (.int .i64 (l2.getD k 0)) := kv_getD .i64 l2 k (by omega)
        rcases h1 with h1 | ⟨b1, o1, rfl, h1⟩
        · simp [h1] at e1
        rcases h2 with h2 | ⟨b2, o2, rfl, h2⟩
        · simp [h2] at e2
        have g1 := h1 k _ e1
        have g2 := h2 k _ e2
        clear h1 h2 e1 e2
        obtain ⟨x, hx⟩ : ∃ x, l1.getD k 0 = x := ⟨_, rfl⟩
        obtain ⟨y, hy⟩ : ∃ y, l2.getD k 0 = y := ⟨_, rfl⟩
        rw [hx] at g1
        rw [hy] at g2
        have HX := Lib.hid hx
        have HY := Lib.hid hy
        clear hx hy
        by_cases hxy : x = y
        · have HT : Hid (l1.take (k + 1) = l2.take (k + 1)) := Lib.hid (by
            rw [List.take_add_one, List.take_add_one, HK.out]
            have a := HX.out
            have b := HY.out
            rw [List.getD_eq_getElem?_getD, List.getElem?_eq_getElem (by omega)] at a b
            rw [List.getElem?_eq_getElem (by omega), List.getElem?_eq_getElem (by omega)]
            simp only [Option.getD_some] at a b
            rw [a, b, hxy])
          subst hxy
          have hne : (x != x) = false := by simp
          go_wp2
          go_quiet (fail)
          go_wp2
          go_roundw
          case rel => exact ⟨k + 1, by go_num, by omega, HT.out, _, rfl⟩
          case measure => simp [intOf]; omega
        · have HF : Hid ((l1 == l2) = false) := Lib.hid (by
            rw [beq_eq_false_iff_ne]; intro e; apply hxy; rw [← HX.out, ← HY.out, e])
          have hne : (x != y) = true := by rw [bne_iff_ne]; exact hxy
          clear hxy
          go_wp2
          go_quiet (fail)
          go_wp2
          go_ret
          exact ⟨ret_bool HF.out.symm, _, by rw [World.drewN_drewN]⟩
      · have hkn : k = n := by omega
        subst hkn
        go_wp2
        go_ret
        exact ⟨ret_bool (by have := HK.out; rw [← hn1, List.take_length, hn1, ← hn2, List.take_length] at this; rw [this]; simp), _, rfl⟩
  · have hf : (l1 == l2) = false := by rw [beq_eq_false_iff_ne]; intro e; exact hl (by rw [e])
    rw [hf]
    have hne : ((l1.length : Int) != (l2.length : Int)) = true := by rw [bne_iff_ne]; omega
    clear hl
    go_enter Try.func55, Try.ntmps55
    go_wp2
    go_ret
    exact ⟨rfl, 0, rfl⟩
theorem equal_any (v1 v2 : Value) (l1 l2 : List Int) (w : World) (h1 : Reads .i64 w v1 l1) (h2 : Reads .i64 w v2 l2) :
    Calls Try.prog 106 #[v1, v2] w fun e w' => e = .returned (.bool (l1 == l2)) ∧ ∃ n, w' = w.drewN n := by
  obtain ⟨⟨a1, c1, rfl, _, _, h1⟩, _, hm1⟩ := h1
  obtain ⟨⟨a2, c2, rfl, _, _, h2⟩, _, hm2⟩ := h2
  unfold maxLen at hm1 hm2
  simp only [List.length_map] at h1 h2 ⊢
  by_cases hl : l1.length = l2.length
  · obtain ⟨n, hn1, hn2⟩ : ∃ n, l1.length = n ∧ l2.length = n := ⟨_, rfl, hl.symm⟩
    rw [hn1] at hm1 hl ⊢
    rw [hn2] at hm2 ⊢
    clear hl
    obtain ⟨wo, rfl⟩ : ∃ wo : World, wo = w := ⟨_, rfl⟩
    go_enter Try.func106, Try.ntmps106
    go_wp2
    go_loopw [13] (fun c wr => ∃ k : Nat, c = .int .i64 k ∧ k ≤ n ∧ l1.take k = l2.take k ∧ ∃ m, wr = wo.drewN m) (fun c _ => n - (intOf c).toNat)
    case atStart => exact ⟨0, rfl, by omega, by simp, 0, rfl⟩
    case round =>
      obtain ⟨k, rfl, hk, hkk, m, rfl⟩ := hrel
      have HK := Lib.hid hkk
      clear hkk
      by_cases hlt : k < n
      · have e1 : (kv .i64 l1)[k]? = some (.int .i64 (l1.getD k 0)) := kv_getD .i64 l1 k (by omega)
        have e2 : (kv .i64 l2)[k]? = some (.int .i64 (l2.getD k 0)) := kv_getD .i64 l2 k (by omega)
        rcases h1 with h1 | ⟨b1, o1, rfl, h1⟩
        · simp [h1] at e1
        rcases h2 with h2 | ⟨b2, o2, rfl, h2⟩
        · simp [h2] at e2
        have g1 := h1 k _ e1
        have g2 := h2 k _ e2
        clear h1 h2 e1 e2
        obtain ⟨x, hx⟩ : ∃ x, l1.getD k 0 = x := ⟨_, rfl⟩
        obtain ⟨y, hy⟩ : ∃ y, l2.getD k 0 = y := ⟨_, rfl⟩
        rw [hx] at g1
        rw [hy] at g2
        have HX := Lib.hid hx
        have HY := Lib.hid hy
        clear hx hy
        by_cases hxy : x = y
        · have HT : Hid (l1.take (k + 1) = l2.take (k + 1)) := Lib.hid (by
            rw [List.take_add_one, List.take_add_one, HK.out]
            have a := HX.out
            have b := HY.out
            rw [List.getD_eq_getElem?_getD, List.getElem?_eq_getElem (by omega)] at a b
            rw [List.getElem?_eq_getElem (by omega), List.getElem?_eq_getElem (by omega)]
            simp only [Option.getD_some] at a b
            rw [a, b, hxy])
          subst hxy
          have hne : (x != x) = false := by simp
          go_wp2
          go_quiet (fail)
          go_wp2
          go_roundw
          case rel => exact ⟨k + 1, by go_num, by omega, HT.out, _, rfl⟩
          case measure => simp [intOf]; omega
        · have HF : Hid ((l1 == l2) = false) := Lib.hid (by
            rw [beq_eq_false_iff_ne]; intro e; apply hxy; rw [← HX.out, ← HY.out, e])
          have hne : (x != y) = true := by rw [bne_iff_ne]; exact hxy
          clear hxy
          go_wp2
          go_quiet (fail)
          go_wp2
          go_ret
          exact ⟨ret_bool HF.out.symm, _, by rw [World.drewN_drewN]⟩
      · have hkn : k = n := by omega
        subst hkn
        go_wp2
        go_ret
        exact ⟨ret_bool (by have := HK.out; rw [← hn1, List.take_length, hn1, ← hn2, List.take_length] at this; rw [this]; simp), _, rfl⟩
  · have hf : (l1 == l2) = false := by rw [beq_eq_false_iff_ne]; intro e; exact hl (by rw [e])
    rw [hf]
    have hne : ((l1.length : Int) != (l2.length : Int)) = true := by rw [bne_iff_ne]; omega
    clear hl
    go_enter Try.func106, Try.ntmps106
    go_wp2
    go_ret
    exact ⟨rfl, 0, rfl⟩
theorem same_any (v1 v2 : Value) (l1 l2 : List Int) (w : World) (h1 : Reads .i64 w v1 l1) (h2 : Reads .i64 w v2 l2) :
    Calls Try.prog 45 #[v1, v2] w fun e w' => e = .returned (.bool (l1 == l2)) ∧ ∃ n, w' = w.drewN n := by
  have H1 := Lib.hid h1
  have H2 := Lib.hid h2
  clear h1 h2
  go_enter Try.func45, Try.ntmps45
  go_wp2_with (go_at_call 106; refine (equal_any _ _ _ _ _ H1.out H2.out).mono ?_; rintro e w' ⟨rfl, n, rfl⟩)
  go_ret
  exact ⟨rfl, _, rfl⟩
def stridesOf : List Int → List Int
  | [] => []
  | _ :: l => prodFrom 1 l :: stridesOf l
theorem stridesOf_len (l : List Int) : (stridesOf l).length = l.length := by
  induction l with
  | nil => rfl
  | cons x l ih => simp [stridesOf, ih]
def strD (l : List Int) : List Int := if mayD l then stridesOf l else []
theorem set_drop (s : List Int) (m : Nat) (x : Int) (h : m < s.length) : (s.set m x).drop m = x :: s.drop (m + 1) := by
  rw [List.drop_eq_getElem_cons (by simpa using h), List.drop_set, if_pos (by omega)]
  simp
theorem iInt : (Try.prog.info? 3).map (fun i => (i.zero, i.size, i.bytes)) = some (some (.int .i64 0), 1, 8) := by kernel_rfl
end Go.Proofs.Ytekokhlldcmjfaa
