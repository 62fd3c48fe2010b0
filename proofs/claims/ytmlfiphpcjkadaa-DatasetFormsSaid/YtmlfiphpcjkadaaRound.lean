/- What the functions of round, and the document's own of that chapter, answer. -/
import Derived.Test.YtmlfiphpcjkadaaProg
import Derived.Test.YtmlfiphpcjkadaaBv
import Derived.Lib.BitFns
import Derived.Lib.MinMax
import Derived.Deep.QuietTactic
import Derived.BigQuiet
namespace Go.Proofs.Ytmlfiphpcjkadaa
open Go.RowKit
set_option maxHeartbeats 400000
theorem quiet_left {P : Program} {f : FuncId} {args : Array Value} {w : World} {n : Nat} {v : Value}
    (h : Calls P f args (w.drewN n) fun e w' => e = .returned v ∧ w.drewN n = w') : Calls P f args (w.drewN n) fun e w'' => e = .returned v ∧ ∃ m, w'' = w.drewN m :=
  h.mono fun _ _ ⟨he, hm⟩ => ⟨he, n, hm.symm⟩
/-- v, not below lo, not above hi. -/
def cl (v lo hi : Int) : Int := max lo (min hi v)
theorem cl_in (v lo hi : Int) (h : lo ≤ hi) : lo ≤ cl v lo hi ∧ cl v lo hi ≤ hi := by unfold cl; omega
def numb (v : Int) : Int := cl v (-4611686018427387904) 4611686018427387904
theorem numb_in (v : Int) : -4611686018427387904 ≤ numb v ∧ numb v ≤ 4611686018427387904 := cl_in _ _ _ (by omega)
def shN (s : Int) : Nat := (cl s 0 62).toNat
theorem shN_in (s : Int) : shN s ≤ 62 := by unfold shN cl; omega
theorem shN_eq (s : Int) : cl s 0 62 = (shN s : Int) := by unfold shN cl; omega
def downI (v s : Int) : Int := numb v / 2 ^ shN s
def nearI (v s : Int) : Int := if shN s = 0 then numb v else (numb v + 2 ^ (shN s - 1)) / 2 ^ shN s
def chanceI (v s : Int) (r : BitVec 64) : Int := (numb v + N r % 2 ^ shN s) / 2 ^ shN s
theorem two_pow_ub (S K : Nat) (h : S ≤ K) : (1 : Int) ≤ 2 ^ S ∧ (2 : Int) ^ S ≤ 2 ^ K := by
  have hp : 0 < 2 ^ S := Nat.two_pow_pos S
  have hq : 2 ^ S ≤ 2 ^ K := Nat.pow_le_pow_right (by omega) h
  have e1 : (((2 ^ S : Nat)) : Int) = (2 : Int) ^ S := by norm_cast
  have e2 : (((2 ^ K : Nat)) : Int) = (2 : Int) ^ K := by norm_cast
  omega
def bitsI (v : Int) : Int := (Lib.bitLen (numb v).natAbs : Int)
/-- The greatest number of so many bits, one of them for the sign. -/
def wid (w : Int) : Nat := (cl w 1 32 - 1).toNat
theorem wid_in (w : Int) : wid w ≤ 31 := by unfold wid cl; omega
theorem wid_eq (w : Int) : cl w 1 32 = (wid w : Int) + 1 := by unfold wid cl; omega
def clampI (v w : Int) : Int := cl v (-(2 ^ wid w - 1)) (2 ^ wid w - 1)
theorem cl_numb (v m : Int) (h0 : 0 ≤ m) (h1 : m ≤ 4611686018427387904) : cl (numb v) (-m) m = cl v (-m) m := by unfold numb cl; omega
/-- So many bits apart are two exponents, each at most 1000 off. -/
def gap (a b : Int) : Int := cl a (-1000) 1000 - cl b (-1000) 1000
theorem gap_in (a b : Int) : -2000 ≤ gap a b ∧ gap a b ≤ 2000 := by unfold gap cl; omega
def cut20 (v : Int) : Int := cl v (-1048576) 1048576
theorem cut20_in (v : Int) : -1048576 ≤ cut20 v ∧ cut20 v ≤ 1048576 := cl_in _ _ _ (by omega)
def alignI (v a b : Int) : Int := if gap a b < 0 then downI v (-gap a b) else cut20 (cut20 v * 2 ^ (min (gap a b) 20).toNat)
theorem mul_in (c p : Int) (hc : -1048576 ≤ c ∧ c ≤ 1048576) (hp : 1 ≤ p ∧ p ≤ 1048576) : -1099511627776 ≤ c * p ∧ c * p ≤ 1099511627776 := by
  have h1 := Int.mul_le_mul_of_nonneg_right hc.2 (show 0 ≤ p by omega)
  have h2 := Int.mul_le_mul_of_nonneg_right hc.1 (show 0 ≤ p by omega)
  omega
theorem bv_low' (x : BitVec 64) (j : Nat) (hj : j ≤ 63) : bits .and .u64 (N x) ((2 : Int) ^ j - 1) = N x % 2 ^ j := by
  have hp : 0 < 2 ^ j := Nat.two_pow_pos j
  have hq : 2 ^ j ≤ 2 ^ 63 := Nat.pow_le_pow_right (by omega) hj
  have e : ((2 : Int) ^ j - 1) = ((2 ^ j - 1 : Nat) : Int) := by
    have : (((2 ^ j : Nat)) : Int) = (2 : Int) ^ j := by norm_cast
    omega
  rw [e]
  unfold N
  rw [u64_and_nat _ _ x.isLt (by omega), Nat.and_two_pow_sub_one_eq_mod]
  norm_cast
theorem bitLen_zero : Lib.bitLen 0 = 0 := rfl
theorem al_down (v A B : Int) (h : A - B < 0) : numb v / 2 ^ (min (B - A) 62).toNat = downI v (-(A - B)) := by
  unfold downI shN cl
  rw [show (min (B - A) 62).toNat = (max 0 (min 62 (-(A - B)))).toNat from by omega]
theorem cut20_numb (v : Int) : cl (numb v) (-1048576) 1048576 = cut20 v := by unfold cut20 numb cl; omega
theorem al_zero (v : Int) (k : Nat) (h : (numb v == 0) = true) : 0 = cut20 (cut20 v * 2 ^ k) := by
  have h1 := beq_iff_eq.1 h
  have hv : cut20 v = 0 := by unfold numb cl at h1; unfold cut20 cl; omega
  rw [hv, Int.zero_mul]; rfl
theorem al_far (v A B : Int) (h : 20 < A - B) (h0 : (numb v == 0) = false) :
    cl (wrap64 (cl (cl (numb v) (-1) 1) (-1048576) 1048576 * 2 ^ (B + 20 - B).toNat)) (-1048576) 1048576 = cut20 (cut20 v * 2 ^ (min (A - B) 20).toNat) := by
  have h1 := beq_eq_false_iff_ne.1 h0
  rw [show (B + 20 - B).toNat = 20 from by omega, show (min (A - B) 20).toNat = 20 from by omega, show (2 : Int) ^ 20 = 1048576 from rfl]
  have e : cl (cl (numb v) (-1) 1) (-1048576) 1048576 = cl (numb v) (-1) 1 := by unfold cl; omega
  rw [e, IntWalk.wrap64_in _ (by unfold cl; omega)]
  unfold cut20 numb cl
  unfold numb cl at h1
  omega
theorem al_near (v A B : Int) (h0 : 0 ≤ A - B) (h : A - B ≤ 20) :
    cl (wrap64 (cl (numb v) (-1048576) 1048576 * 2 ^ (A - B).toNat)) (-1048576) 1048576 = cut20 (cut20 v * 2 ^ (min (A - B) 20).toNat) := by
  have hM := mul_in (cut20 v) _ (cut20_in v) (two_pow_ub (min (A - B) 20).toNat 20 (by omega))
  rw [cut20_numb, show (A - B).toNat = (min (A - B) 20).toNat from by omega, IntWalk.wrap64_in _ (by omega)]
  rfl
end Go.Proofs.Ytmlfiphpcjkadaa
