/- Numbers of 64 bits as bit vectors, and small facts that all walks of this seat share. No program in sight. -/
import Derived.WalkKit
import Derived.WalkSpells
import Derived.WalkLawsBesides
import Derived.Lib.Hide
namespace Go.Proofs.Ytekokhlldcmjfaa
open Go.RowKit

theorem ret_int {k : IntKind} {a b : Int} (h : a = b) : Ending.returned (.int k a) = .returned (.int k b) := by rw [h]
theorem ret_bool {a b : Bool} (h : a = b) : Ending.returned (.bool a) = .returned (.bool b) := by rw [h]

/-- The number of a bit vector. A plain definition, so that the walk leaves it as it stands. -/
def N (x : BitVec 64) : Int := (x.toNat : Int)
theorem N_lo (x : BitVec 64) : 0 ≤ N x := by unfold N; omega
theorem N_hi (x : BitVec 64) : N x ≤ 18446744073709551615 := by unfold N; omega
theorem N_inj {x y : BitVec 64} (h : N x = N y) : x = y := BitVec.eq_of_toNat_eq (by unfold N at h; omega)
theorem N_beq (x y : BitVec 64) : (N x == N y) = (x == y) := by
  rw [Bool.eq_iff_iff, beq_iff_eq, beq_iff_eq]
  exact ⟨N_inj, fun h => by rw [h]⟩
theorem N_of (a : Int) (h0 : 0 ≤ a) (h1 : a ≤ 18446744073709551615) : N (BitVec.ofInt 64 a) = a := by
  unfold N
  obtain ⟨n, rfl⟩ := Int.eq_ofNat_of_zero_le h0
  rw [BitVec.ofInt_natCast, BitVec.toNat_ofNat]; omega
theorem N_ex (a : Int) (h0 : 0 ≤ a) (h1 : a ≤ 18446744073709551615) : ∃ x : BitVec 64, a = N x := ⟨BitVec.ofInt 64 a, (N_of a h0 h1).symm⟩
theorem N_wf {a : Int} (h : (Lit.int .u64 a).wf = true) : ∃ x : BitVec 64, a = N x := by
  have : 0 ≤ a ∧ a ≤ 18446744073709551615 := by simpa [Lit.wf, IntKind.min, IntKind.max, IntKind.signed, IntKind.bits] using h
  exact N_ex a this.1 this.2
theorem i64_wf {a : Int} (h : (Lit.int .i64 a).wf = true) : -9223372036854775808 ≤ a ∧ a ≤ 9223372036854775807 := by
  simpa [Lit.wf, IntKind.min, IntKind.max, IntKind.signed, IntKind.bits] using h
abbrev u64 (x : BitVec 64) : Value := .int .u64 (N x)

theorem bv_wrap (n : Nat) : IntKind.u64.wrap (n : Int) = N (BitVec.ofNat 64 n) := by
  unfold N; rw [IntKind.wrap_u64, BitVec.toNat_ofNat]; omega
theorem bv_wrap_int (n : Int) : IntKind.u64.wrap n = N (BitVec.ofInt 64 n) := by
  unfold N; rw [IntKind.wrap_u64, BitVec.toNat_ofInt]; omega
theorem bv_add_lit (a : BitVec 64) (n : Nat) : IntKind.u64.wrap (N a + (n : Int)) = N (a + BitVec.ofNat 64 n) := by
  unfold N; rw [IntKind.wrap_u64, BitVec.toNat_add, BitVec.toNat_ofNat]; omega
theorem bv_mul_lit (a : BitVec 64) (n : Nat) : IntKind.u64.wrap (N a * (n : Int)) = N (a * BitVec.ofNat 64 n) := by
  unfold N
  rw [IntKind.wrap_u64, BitVec.toNat_mul, BitVec.toNat_ofNat]
  have h : a.toNat * (n % 2 ^ 64) % 2 ^ 64 = a.toNat * n % 2 ^ 64 := by rw [Nat.mul_mod_mod]
  rw [h, ← Int.natCast_mul]; omega
theorem bv_xor (a b : BitVec 64) : bits .xor .u64 (N a) (N b) = N (a ^^^ b) := by
  unfold N; rw [bits_xor_u64_nat _ _ a.isLt b.isLt, BitVec.toNat_xor]
theorem bv_shr (a : BitVec 64) (k : Nat) : N a / ((2 ^ k : Nat) : Int) = N (a >>> k) := by
  unfold N; rw [BitVec.toNat_ushiftRight, Nat.shiftRight_eq_div_pow, Int.natCast_ediv]
theorem bv_add_c (a : BitVec 64) : IntKind.u64.wrap (N a + (11400714819323198485 : Int)) = N (a + 0x9e3779b97f4a7c15#64) := bv_add_lit a 11400714819323198485
theorem bv_mul_c1 (a : BitVec 64) : IntKind.u64.wrap (N a * (13787848793156543929 : Int)) = N (a * 0xbf58476d1ce4e5b9#64) := bv_mul_lit a 13787848793156543929
theorem bv_mul_c2 (a : BitVec 64) : IntKind.u64.wrap (N a * (10723151780598845931 : Int)) = N (a * 0x94d049bb133111eb#64) := bv_mul_lit a 10723151780598845931
theorem bv_shr30 (a : BitVec 64) : N a / (1073741824 : Int) = N (a >>> 30) := bv_shr a 30
theorem bv_shr27 (a : BitVec 64) : N a / (134217728 : Int) = N (a >>> 27) := bv_shr a 27
theorem bv_shr31 (a : BitVec 64) : N a / (2147483648 : Int) = N (a >>> 31) := bv_shr a 31

def mix (x : BitVec 64) : BitVec 64 :=
  let x := x + 0x9e3779b97f4a7c15#64
  let x := (x ^^^ (x >>> 30)) * 0xbf58476d1ce4e5b9#64
  let x := (x ^^^ (x >>> 27)) * 0x94d049bb133111eb#64
  x ^^^ (x >>> 31)
def atB (a b c : BitVec 64) : BitVec 64 := mix (mix (mix a ^^^ b) ^^^ c)
theorem mix_zero : (N (mix 0#64) == 16294208416658607535) = true := by decide

/-- The first of x, mix x, .. that is at least t, modulo n; of k that are asked. -/
def pick : Nat → BitVec 64 → Int → Int → Int
  | 0, _, _, _ => 0
  | k + 1, x, t, n => if t ≤ N x then N x % n else pick k (mix x) t n
def belowB (a b c : BitVec 64) (n : Int) : Int :=
  if n < 1 ∨ 2147483648 < n then 0 else pick 100 (atB a b c) (18446744073709551616 % n) n
theorem pick_lo (k : Nat) (x : BitVec 64) (t n : Int) (hn : 1 ≤ n) : 0 ≤ pick k x t n ∧ pick k x t n < n := by
  induction k generalizing x with
  | zero => unfold pick; omega
  | succ k ih =>
    unfold pick
    split
    · exact ⟨Int.emod_nonneg _ (by omega), Int.emod_lt_of_pos _ (by omega)⟩
    · exact ih _
theorem belowB_lo (a b c : BitVec 64) (n : Int) (hn : 1 ≤ n) (hm : n ≤ 2147483648) : 0 ≤ belowB a b c n ∧ belowB a b c n < n := by
  unfold belowB
  rw [if_neg (by omega)]
  exact pick_lo _ _ _ _ hn

/-! ### unlike numbers are mixed to unlike ones -/
theorem xs_inj (k : Nat) (hk : 0 < k) (x y : BitVec 64) (h : x ^^^ (x >>> k) = y ^^^ (y >>> k)) : x = y := by
  have e : (x ^^^ y) = (x ^^^ y) >>> k := by
    rw [BitVec.ushiftRight_xor_distrib]
    have : x ^^^ (x >>> k) ^^^ (x >>> k) ^^^ y = y ^^^ (y >>> k) ^^^ (x >>> k) ^^^ y := by rw [h]
    have l : x ^^^ (x >>> k) ^^^ (x >>> k) ^^^ y = x ^^^ y := by
      rw [BitVec.xor_assoc x, BitVec.xor_self, BitVec.xor_zero]
    have r : y ^^^ (y >>> k) ^^^ (x >>> k) ^^^ y = (x >>> k) ^^^ (y >>> k) := by
      rw [BitVec.xor_comm _ y, ← BitVec.xor_assoc, ← BitVec.xor_assoc, BitVec.xor_self, BitVec.zero_xor, BitVec.xor_comm]
    rw [← l, this, r]
  have n : (x ^^^ y).toNat = (x ^^^ y).toNat / 2 ^ k := by
    have := congrArg BitVec.toNat e
    rw [BitVec.toNat_ushiftRight, Nat.shiftRight_eq_div_pow] at this
    exact this
  have z : (x ^^^ y).toNat = 0 := by
    rcases Nat.eq_zero_or_pos (x ^^^ y).toNat with h0 | h0
    · exact h0
    · have h2 : 2 ^ 1 ≤ 2 ^ k := Nat.pow_le_pow_right (by omega) hk
      have := Nat.div_lt_self h0 (by omega : 1 < 2 ^ k)
      omega
  have z' : x ^^^ y = 0#64 := BitVec.eq_of_toNat_eq (by simpa using z)
  have : x ^^^ y ^^^ y = y := by rw [z', BitVec.zero_xor]
  rwa [BitVec.xor_assoc, BitVec.xor_self, BitVec.xor_zero] at this
theorem mul_inj (c d x y : BitVec 64) (hc : c * d = 1#64) (h : x * c = y * c) : x = y := by
  have : x * c * d = y * c * d := by rw [h]
  rwa [BitVec.mul_assoc, BitVec.mul_assoc, hc, BitVec.mul_one, BitVec.mul_one] at this
theorem mix_inj (x y : BitVec 64) (h : mix x = mix y) : x = y := by
  unfold mix at h
  simp only [] at h
  have h1 := xs_inj 31 (by decide) _ _ h
  have h2 := mul_inj 0x94d049bb133111eb#64 0x319642b2d24d8ec3#64 _ _ (by decide) h1
  have h3 := xs_inj 27 (by decide) _ _ h2
  have h4 := mul_inj 0xbf58476d1ce4e5b9#64 0x96de1b173f119089#64 _ _ (by decide) h3
  have h5 := xs_inj 30 (by decide) _ _ h4
  have : x + 0x9e3779b97f4a7c15#64 - 0x9e3779b97f4a7c15#64 = y + 0x9e3779b97f4a7c15#64 - 0x9e3779b97f4a7c15#64 := by rw [h5]
  simpa [BitVec.add_sub_cancel] using this
theorem xor_inj (a b c : BitVec 64) (h : a ^^^ c = b ^^^ c) : a = b := by
  have : a ^^^ c ^^^ c = b ^^^ c ^^^ c := by rw [h]
  rwa [BitVec.xor_assoc, BitVec.xor_self, BitVec.xor_zero, BitVec.xor_assoc, BitVec.xor_self, BitVec.xor_zero] at this
theorem xor_inj' (a b c : BitVec 64) (h : c ^^^ a = c ^^^ b) : a = b := by
  rw [BitVec.xor_comm c a, BitVec.xor_comm c b] at h; exact xor_inj _ _ _ h
theorem mix_iff (a b : BitVec 64) : (mix a = mix b) ↔ a = b := ⟨mix_inj _ _, fun h => by rw [h]⟩
theorem at1_iff (a b c d : BitVec 64) : (atB a c d = atB b c d) ↔ a = b :=
  ⟨fun h => by unfold atB at h; exact mix_inj _ _ (xor_inj _ _ _ (mix_inj _ _ (xor_inj _ _ _ (mix_inj _ _ h)))), fun h => by rw [h]⟩
theorem at2_iff (a b c d : BitVec 64) : (atB c a d = atB c b d) ↔ a = b :=
  ⟨fun h => by unfold atB at h; exact xor_inj' _ _ _ (mix_inj _ _ (xor_inj _ _ _ (mix_inj _ _ h))), fun h => by rw [h]⟩
theorem at3_iff (a b c d : BitVec 64) : (atB c d a = atB c d b) ↔ a = b :=
  ⟨fun h => by unfold atB at h; exact xor_inj' _ _ _ (mix_inj _ _ h), fun h => by rw [h]⟩
end Go.Proofs.Ytekokhlldcmjfaa
