/- Contracts of chance below a number, and of an order by chance. -/
import Derived.Test.YtnjipnklbdlgaaaResU
import Derived.Test.YtnjipnklbdlgaaaPrng
namespace Go.Proofs.Ytnjipnklbdlgaaa
open Go.RowKit
set_option maxRecDepth 100000
set_option linter.unusedSimpArgs false
set_option linter.unusedVariables false
set_option maxHeartbeats 4000000
def swapL (l : List Int) (i j : Nat) : List Int := (l.set i (l.getD j 0)).set j (l.getD i 0)
theorem swapL_len (l : List Int) (i j : Nat) : (swapL l i j).length = l.length := by simp [swapL]
/-- The exchanges of the page, from the ith place down to the first. -/
def permDown (a b : BitVec 64) : Nat → List Int → List Int
  | 0, l => l
  | i + 1, l => permDown a b i (swapL l (i + 1) (belowB a b (BitVec.ofInt 64 ((i : Int) + 1)) ((i : Int) + 1 + 1)).toNat)
def iota (n : Nat) : List Int := (List.range n).map (fun (x : Nat) => (x : Int))
def permL (a b : BitVec 64) (n : Nat) : List Int := permDown a b (n - 1) (iota n)
theorem getD_set (l : List Int) (i j : Nat) (x : Int) (h : i < l.length) : (l.set i x).getD j 0 = if i = j then x else l.getD j 0 := by
  rw [List.getD_eq_getElem?_getD, List.getElem?_set, List.getD_eq_getElem?_getD]
  by_cases e : i = j
  · rw [if_pos e, if_pos h, if_pos e]; rfl
  · rw [if_neg e, if_neg e]
theorem permDown_len (a b : BitVec 64) (i : Nat) (l : List Int) : (permDown a b i l).length = l.length := by
  induction i generalizing l with
  | zero => rfl
  | succ i ih => rw [permDown, ih, swapL_len]
theorem iota_len (k : Nat) : (iota k).length = k := by simp [iota]
theorem permL_len (a b : BitVec 64) (n : Nat) : (permL a b n).length = n := by unfold permL; rw [permDown_len, iota_len]
def permZ (a b : BitVec 64) (n : Int) : List Int := if n < 1 ∨ 65536 < n then [] else permL a b n.toNat
theorem permZ_len (a b : BitVec 64) (n : Int) : (permZ a b n).length ≤ 65536 := by
  unfold permZ
  split
  · simp
  · rw [permL_len]; omega
theorem permZ_eq (a b : BitVec 64) {n : Int} (h : 1 ≤ n) (h2 : n ≤ 65536) : (permZ a b n).length = n.toNat := by
  unfold permZ
  rw [if_neg (by omega), permL_len]
theorem swapL_getD (l : List Int) (i j k : Nat) (hi : i < l.length) (hj : j < l.length) :
    (swapL l i j).getD k 0 = l.getD (if k = j then i else if k = i then j else k) 0 := by
  unfold swapL
  by_cases h1 : j = k
  · subst h1
    rw [getD_set _ _ _ _ (by simpa using hj), if_pos rfl, if_pos rfl]
  · rw [getD_set _ _ _ _ (by simpa using hj), if_neg h1, if_neg (fun e => h1 e.symm)]
    by_cases h2 : i = k
    · subst h2; rw [getD_set _ _ _ _ hi, if_pos rfl, if_pos rfl]
    · rw [getD_set _ _ _ _ hi, if_neg h2, if_neg (fun e => h2 e.symm)]
/-- 0 to n - 1, each once. -/
def Each (n : Nat) (l : List Int) : Prop := l.length = n ∧ (∀ i, i < n → 0 ≤ l.getD i 0 ∧ l.getD i 0 < n) ∧ ∀ i j, i < n → j < n → l.getD i 0 = l.getD j 0 → i = j
theorem iota_get (n i : Nat) (h : i < n) : (iota n).getD i 0 = (i : Int) := by
  rw [List.getD_eq_getElem?_getD, List.getElem?_eq_getElem (by rw [iota_len]; exact h)]
  simp [iota]
theorem each_iota (n : Nat) : Each n (iota n) := by
  refine ⟨iota_len n, fun i hi => ?_, fun i j hi hj e => ?_⟩
  · rw [iota_get n i hi]; omega
  · rw [iota_get n i hi, iota_get n j hj] at e; omega
theorem each_swap (n : Nat) (l : List Int) (i j : Nat) (hi : i < n) (hj : j < n) (h : Each n l) : Each n (swapL l i j) := by
  obtain ⟨h1, h2, h3⟩ := h
  refine ⟨by rw [swapL_len, h1], fun k hk => ?_, fun k m hk hm e => ?_⟩
  · rw [swapL_getD _ _ _ _ (by omega) (by omega)]
    exact h2 _ (by split <;> (try split) <;> omega)
  · rw [swapL_getD _ _ _ _ (by omega) (by omega), swapL_getD _ _ _ _ (by omega) (by omega)] at e
    have := h3 _ _ (by split <;> (try split) <;> omega) (by split <;> (try split) <;> omega) e
    by_cases a1 : k = j <;> by_cases a2 : m = j <;> by_cases a3 : k = i <;> by_cases a4 : m = i <;> simp_all
theorem belowJ (a b : BitVec 64) (i : Nat) (hi : i < 65536) : 0 ≤ belowB a b (BitVec.ofInt 64 ((i : Int) + 1)) ((i : Int) + 1 + 1) ∧ (belowB a b (BitVec.ofInt 64 ((i : Int) + 1)) ((i : Int) + 1 + 1)).toNat < i + 2 := by
  have := belowB_lo a b (BitVec.ofInt 64 ((i : Int) + 1)) ((i : Int) + 1 + 1) (by omega) (by omega)
  omega
theorem each_down (a b : BitVec 64) (n i : Nat) (l : List Int) (hi : i < n) (hn : n ≤ 65536) (h : Each n l) : Each n (permDown a b i l) := by
  induction i generalizing l with
  | zero => exact h
  | succ i ih =>
    rw [permDown]
    have := belowJ a b i (by omega)
    exact ih _ (by omega) (each_swap n l _ _ hi (by omega) h)
theorem each_perm (a b : BitVec 64) (n : Nat) (hn : n ≤ 65536) : Each n (permZ a b n) := by
  unfold permZ
  by_cases h : n = 0
  · subst h; exact ⟨rfl, by intro i hi; omega, by intro i j hi; omega⟩
  · rw [if_neg (by omega), Int.toNat_natCast]
    exact each_down a b n (n - 1) _ (by omega) hn (each_iota n)
/-- The exchanges from place n - 1 down, k of them. -/
def dn (a b : BitVec 64) (n : Nat) : Nat → List Int
  | 0 => iota n
  | k + 1 => swapL (dn a b n k) (n - 1 - k) (belowB a b (BitVec.ofInt 64 ((n - 1 - k : Nat) : Int)) (((n - 1 - k : Nat) : Int) + 1)).toNat
theorem dn_len (a b : BitVec 64) (n : Nat) : ∀ k, (dn a b n k).length = n
  | 0 => iota_len n
  | k + 1 => by rw [dn, swapL_len, dn_len a b n k]
theorem dn_down (a b : BitVec 64) (n : Nat) : ∀ k, k ≤ n - 1 → permDown a b (n - 1 - k) (dn a b n k) = permL a b n
  | 0, _ => rfl
  | k + 1, h => by
    rw [← dn_down a b n k (by omega)]
    rw [show n - 1 - k = (n - 1 - (k + 1)) + 1 by omega, permDown, dn, show n - 1 - k = (n - 1 - (k + 1)) + 1 by omega]
    rfl
theorem dn_all (a b : BitVec 64) (n : Nat) : dn a b n (n - 1) = permL a b n := by
  have := dn_down a b n (n - 1) (Nat.le_refl _)
  rwa [Nat.sub_self] at this
def bv (z : Int) : BitVec 64 := BitVec.ofInt 64 z
theorem u64_bv {z : Int} (h : (Lit.int .u64 z).wf = true) : u64 (bv z) = .int .u64 z := by
  have := (stdIn_iff .u64 z).2 h
  simp only [stdIn] at this
  rw [u64, bv, N_of z this.1 this.2]
def blwF (xa : List AV) : Int := match xa with
  | [.z a, .z b, .z i, .z n] => belowB (bv a) (bv b) (bv i) n
  | _ => 0
theorem belowB_in (a b c : BitVec 64) (n : Int) : 0 ≤ belowB a b c n ∧ belowB a b c n ≤ 2147483648 := by
  by_cases h : n < 1 ∨ 2147483648 < n
  · unfold belowB; rw [if_pos h]; omega
  · have := belowB_lo a b c n (by omega) (by omega)
    omega
theorem blw_ok : CtrOk Try.prog 26 (intC [.int .u64, .int .u64, .int .u64, .int .i64] .i64 blwF) := by
  intro xa w g vs ha _ hp
  obtain ⟨a1, as1, v1, vs1, rfl, rfl, h1, h⟩ := args_cons ha
  obtain ⟨a2, as2, v2, vs2, rfl, rfl, h2, h⟩ := args_cons h
  obtain ⟨a3, as3, v3, vs3, rfl, rfl, h3, h⟩ := args_cons h
  obtain ⟨a4, as4, v4, vs4, rfl, rfl, h4, h⟩ := args_cons h
  obtain ⟨rfl, rfl⟩ := args_nil h
  obtain ⟨x, rfl, rfl, q1⟩ := of_arg_int h1
  obtain ⟨y, rfl, rfl, q2⟩ := of_arg_int h2
  obtain ⟨z, rfl, rfl, q3⟩ := of_arg_int h3
  obtain ⟨n, rfl, rfl, q4⟩ := of_arg_int h4
  have hb := below_any (bv x) (bv y) (bv z) n w
  rw [u64_bv q1, u64_bv q2, u64_bv q3] at hb
  refine hb.mono fun e w' ⟨he, hw⟩ => ⟨_, he, ?_⟩
  subst hw
  have := belowB_in (bv x) (bv y) (bv z) n
  exact gv_val (v := .int .i64 (belowB (bv x) (bv y) (bv z) n)) (WalkArith.wf_i64 (by omega)) (Below.refl _ _)
theorem iota_succ (j : Nat) : iota (j + 1) = iota j ++ [(j : Int)] := by simp [iota, List.range_succ]
theorem wu64 {z : Int} (h : 0 ≤ z) (h2 : z ≤ 18446744073709551615) : IntKind.u64.wrap z = z := wrap_wf ((stdIn_iff .u64 z).1 ⟨h, h2⟩)
def permF (xa : List AV) : List Int := match xa with
  | [.z a, .z b, .z n] => permZ (bv a) (bv b) n
  | _ => []
end Go.Proofs.Ytnjipnklbdlgaaa
