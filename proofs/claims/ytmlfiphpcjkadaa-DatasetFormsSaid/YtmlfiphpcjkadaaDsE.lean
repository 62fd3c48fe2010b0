/- Layer 22: the dataset of bytes. -/
import Derived.Test.YtmlfiphpcjkadaaDsB
import Derived.Test.YtmlfiphpcjkadaaOctZ
import Derived.Test.YtmlfiphpcjkadaaDsA
import Derived.Test.YtmlfiphpcjkadaaFrzR
namespace Go.Proofs.Ytmlfiphpcjkadaa
open Go.RowKit
set_option maxRecDepth 1000000
set_option linter.unusedSimpArgs false
set_option linter.unusedVariables false
set_option maxHeartbeats 16000000
set_option cbv.maxSteps 10000000
def dV (b : List Int) (i : Nat) : Int := IntKind.i64.wrap (gF b (4 + (i : Int)) 1)
def dE (b : List Int) : Int := IntKind.i8.wrap (dV b 3)
def dN (b : List Int) : Int := IntKind.i64.wrap (gF b 9 2)
def dS (b : List Int) : Int := dV b 0 * dV b 1 * dV b 2
def dA (b : List Int) (i : Nat) : Int := 11 + (i : Int) * (1 + dS b)
def dLab (b : List Int) (i : Nat) : Int := IntKind.i64.wrap (gF b (dA b i) 1)
def dDat (b : List Int) (i : Nat) : List Int := i8L (std.lsub b (dA b i + 1) (dS b))
def dStep (b : List Int) (i : Nat) : Int := if (b.length : Int) < dA b (i + 1) then 4 else if exB (dV b 0) (dV b 1) (dV b 2) (dV b 4) (dDat b i) (dLab b i) = true then 0 else 5
def dRun (b : List Int) : Nat → Int
  | 0 => 0
  | i + 1 => if dRun b i = 0 then dStep b i else dRun b i
def dMark (b : List Int) : Bool := (strOfNums (std.lsub b 0 4)).toList == (⟨#[112, 100, 100, 115]⟩ : ByteArray).toList
def decE (b : List Int) : Int := if (b.length : Int) < 4 then 4 else if dMark b = false then 5 else if (b.length : Int) < 11 then 4 else if headB (dV b 0) (dV b 1) (dV b 2) (dE b) (dV b 4) (dN b) = false then 5 else if dRun b (dN b).toNat = 0 then (if (b.length : Int) = dA b (dN b).toNat then 0 else 5) else dRun b (dN b).toNat
def dX' (b : List Int) (i : Nat) : Dat := .list ((List.range i).map fun q => .agg [.list ((dDat b q).map Dat.int), .int (dLab b q)])
def decEF (xa : List AV) : Int := match xa with
  | [.l b] => decE b
  | _ => 1
def decVF (i : Nat) (xa : List AV) : Int := match xa with
  | [.l b] => match i with
    | 3 => dE b
    | i => dV b i
  | _ => 1
def decXF (xa : List AV) : Dat := match xa with
  | [.l b] => dX' b (dN b).toNat
  | _ => .list []
def decP (xa : List AV) : Prop := match xa with
  | [.l b] => smL b
  | _ => False
def decC (p : List AV → Prop) (e : List AV → Int) (v : Nat → List AV → Int) (x : List AV → Dat) : FCtr := ⟨[.sl (.int .u8)], fun xa => some (p xa), fun xa => .ite (e xa = 0)
  (.ret (.tup [.agg [.v (.int .i64 (v 0 xa)), .v (.int .i64 (v 1 xa)), .v (.int .i64 (v 2 xa)), .v (.int .i64 (v 3 xa)), .v (.int .i64 (v 4 xa)), .imm exTy (x xa)], .v (.int .i64 0)]) [])
  (.ret (.tup [.agg [.v (.int .i64 0), .v (.int .i64 0), .v (.int .i64 0), .v (.int .i64 0), .v (.int .i64 0), .v (.slice none 0 0)], .v (.int .i64 (e xa))]) []), true⟩
/-- Where the reader stands behind so many bytes of the head. -/
structure RdAt (N : Int) (a n e : Int) (p : Int) : Prop where
  ok : p ≤ N → a = p ∧ n = N - p ∧ e = 0
  no : N < p → e = 4
theorem RdAt.get {N a n e p : Int} (h : RdAt N a n e p) {wd : Int} (hw : 0 ≤ wd) : RdAt N (rdA a n e wd) (rdN n e wd) (rdE n e wd) (p + wd) := by
  constructor
  · intro hp
    obtain ⟨rfl, rfl, rfl⟩ := h.ok (by omega)
    refine ⟨?_, ?_, ?_⟩
    · unfold rdA; rw [if_pos rfl, if_pos (by omega)]
    · unfold rdN; rw [if_pos rfl, if_pos (by omega)]; omega
    · unfold rdE; rw [if_pos rfl, if_pos (by omega)]
  · intro hp
    by_cases h1 : p ≤ N
    · obtain ⟨rfl, rfl, rfl⟩ := h.ok h1
      unfold rdE
      rw [if_pos rfl, if_neg (by omega)]
    · have := h.no (by omega)
      subst this
      unfold rdE
      rw [if_neg (by decide)]
theorem RdAt.raw {N a n e p : Int} (h : RdAt N a n e p) {wd : Int} (hw : 0 ≤ wd) : RdAt N (rwA a n e wd) (rwN n e wd) (rwE n e wd) (p + wd) := by
  unfold rwA rwN rwE
  rw [if_pos hw, if_pos hw, if_pos hw]
  exact h.get hw
theorem RdAt.new (N : Int) (h : 0 ≤ N) : RdAt N 0 N 0 0 := ⟨fun _ => ⟨rfl, by omega, rfl⟩, fun h => by omega⟩
theorem RdAt.val {N a n e p : Int} (h : RdAt N a n e p) {wd : Int} {b : List Int} (hp : p + wd ≤ N) (hw : 0 ≤ wd) : rdV b a n e wd = gF b p wd.toNat := by
  obtain ⟨rfl, rfl, rfl⟩ := h.ok (by omega)
  unfold rdV
  rw [if_pos ⟨rfl, by omega⟩]
theorem RdAt.row {N a n e p : Int} (h : RdAt N a n e p) {wd : Int} {b : List Int} (hp : p + wd ≤ N) (hw : 0 ≤ wd) : rwL b a n e wd = std.lsub b p wd := by
  obtain ⟨rfl, rfl, rfl⟩ := h.ok (by omega)
  unfold rwL
  rw [if_pos ⟨hw, rfl, by omega⟩]
/-- The reader behind so many single bytes, the mark ahead of them. -/
def rqN (N : Int) : Nat → Int × Int × Int
  | 0 => (rwA 0 N 0 4, rwN N 0 4, rwE N 0 4)
  | i + 1 => (rdA (rqN N i).1 (rqN N i).2.1 (rqN N i).2.2 1, rdN (rqN N i).2.1 (rqN N i).2.2 1, rdE (rqN N i).2.1 (rqN N i).2.2 1)
theorem rqN_at (N : Int) (h : 0 ≤ N) : ∀ i : Nat, RdAt N (rqN N i).1 (rqN N i).2.1 (rqN N i).2.2 (4 + (i : Int))
  | 0 => (RdAt.new N h).raw (wd := 4) (by decide)
  | i + 1 => by
    have := (rqN_at N h i).get (wd := 1) (by decide)
    have e : 4 + (i : Int) + 1 = 4 + ((i + 1 : Nat) : Int) := by omega
    rw [e] at this
    exact this
def rqV (b : List Int) (i : Nat) : Int := IntKind.i64.wrap (rdV b (rqN b.length i).1 (rqN b.length i).2.1 (rqN b.length i).2.2 1)
theorem rqV_eq {b : List Int} {i : Nat} (h : 5 + (i : Int) ≤ b.length) : rqV b i = dV b i := by
  unfold rqV dV
  rw [(rqN_at (b.length : Int) (by omega) i).val (by omega) (by decide)]
  rfl
theorem dA_zero (b : List Int) : dA b 0 = 11 := by simp [dA]
theorem dA_succ (b : List Int) (x : Nat) : dA b (x + 1) = dA b x + 1 + dS b := by
  unfold dA
  have : ((x + 1 : Nat) : Int) * (1 + dS b) = (x : Int) * (1 + dS b) + (1 + dS b) := by push_cast; rw [Int.add_mul, Int.one_mul]
  omega
theorem ex_at {b : List Int} {x : Nat} {s : Int} (hs : s = dS b) (hs0 : 0 ≤ s) (hx : dA b x ≤ b.length) : RdAt b.length (xaA (dA b x) (b.length - dA b x) 0 s) (xaN (b.length - dA b x) 0 s) (xaE (b.length - dA b x) 0 s) (dA b (x + 1)) ∧ (dA b (x + 1) ≤ b.length → xaL b (dA b x) (b.length - dA b x) 0 s = dDat b x ∧ xaV b (dA b x) (b.length - dA b x) 0 = dLab b x) := by
  subst hs
  by_cases h0 : dA b x ≤ (b.length : Int)
  · have r0 : RdAt b.length (dA b x) (b.length - dA b x) 0 (dA b x) := ⟨fun _ => ⟨rfl, rfl, rfl⟩, fun h' => by omega⟩
    have r1 := r0.get (wd := 1) (by decide)
    have r2 := r1.raw (wd := dS b) hs0
    rw [← dA_succ] at r2
    refine ⟨r2, fun hn => ?_⟩
    have hsu := dA_succ b x
    refine ⟨?_, ?_⟩
    · show i8L (rwL b _ _ _ (dS b)) = _
      rw [r1.row (b := b) (by omega) hs0]
      rfl
    · show IntKind.i64.wrap (rdV b _ _ _ 1) = _
      rw [r0.val (b := b) (by omega) (by decide)]
      rfl
  · exact absurd hx h0
theorem RdAt.sh {N a n e p : Int} (h : RdAt N a n e p) : shB e = decide (N < p) := by
  unfold shB
  rw [decide_eq_decide]
  constructor
  · intro h1
    by_cases h2 : N < p
    · exact h2
    · have := (h.ok (by omega)).2.2
      omega
  · exact h.no
theorem mark_iff {b : List Int} : (strOfNums (std.lsub b 0 4)).toList = (⟨#[112, 100, 100, 115]⟩ : ByteArray).toList ↔ dMark b = true := by unfold dMark; rw [beq_iff_eq]
theorem decE4 {b : List Int} (h : (b.length : Int) < 4) : decE b = 4 := by unfold decE; rw [if_pos h]
theorem decEm {b : List Int} (h : ¬ (b.length : Int) < 4) (hm : dMark b = false) : decE b = 5 := by unfold decE; rw [if_neg h, if_pos hm]
theorem decE11 {b : List Int} (h : ¬ (b.length : Int) < 4) (hm : dMark b = true) (h11 : (b.length : Int) < 11) : decE b = 4 := by unfold decE; rw [if_neg h, if_neg (by rw [hm]; simp), if_pos h11]
theorem decEh {b : List Int} (hm : dMark b = true) (h11 : ¬ (b.length : Int) < 11) (hh : headB (dV b 0) (dV b 1) (dV b 2) (dE b) (dV b 4) (dN b) = false) : decE b = 5 := by unfold decE; rw [if_neg (by omega), if_neg (by rw [hm]; simp), if_neg h11, if_pos hh]
theorem dRun_stop {b : List Int} {x : Nat} (h0 : dRun b x = 0) (hs : dStep b x ≠ 0) : ∀ k : Nat, dRun b (x + 1 + k) = dStep b x
  | 0 => by rw [Nat.add_zero, dRun, if_pos h0]
  | k + 1 => by
    have := dRun_stop h0 hs k
    rw [show x + 1 + (k + 1) = (x + 1 + k) + 1 from by omega, dRun, this, if_neg hs]
theorem decEr {b : List Int} (hm : dMark b = true) (h11 : ¬ (b.length : Int) < 11) (hh : headB (dV b 0) (dV b 1) (dV b 2) (dE b) (dV b 4) (dN b) = true) {x : Nat} (hx : x < (dN b).toNat) (h0 : dRun b x = 0) {q : Int} (hq : dStep b x = q) (hs : q ≠ 0) : decE b = q := by
  subst hq
  have := dRun_stop h0 hs ((dN b).toNat - (x + 1))
  rw [show x + 1 + ((dN b).toNat - (x + 1)) = (dN b).toNat from by omega] at this
  unfold decE
  rw [if_neg (by omega), if_neg (by rw [hm]; simp), if_neg h11, if_neg (by rw [hh]; simp), this, if_neg hs]
theorem decEz {b : List Int} (hm : dMark b = true) (h11 : ¬ (b.length : Int) < 11) (hh : headB (dV b 0) (dV b 1) (dV b 2) (dE b) (dV b 4) (dN b) = true) (h0 : dRun b (dN b).toNat = 0) : decE b = if (b.length : Int) = dA b (dN b).toNat then 0 else 5 := by
  unfold decE
  rw [if_neg (by omega), if_neg (by rw [hm]; simp), if_neg h11, if_neg (by rw [hh]; simp), if_pos h0]
theorem dA_ge {b : List Int} {x : Nat} (hs : 0 ≤ dS b) : 11 ≤ dA b x := by
  unfold dA
  generalize dS b = s at *
  have := Int.mul_nonneg (show (0 : Int) ≤ (x : Int) by omega) (show 0 ≤ 1 + s by omega)
  omega
theorem step_short {b : List Int} {x : Nat} (h : (b.length : Int) < dA b (x + 1)) : dStep b x = 4 := by unfold dStep; rw [if_pos h]
theorem step_bad {b : List Int} {x : Nat} (h : ¬ (b.length : Int) < dA b (x + 1)) (hx : exB (dV b 0) (dV b 1) (dV b 2) (dV b 4) (dDat b x) (dLab b x) = false) : dStep b x = 5 := by unfold dStep; rw [if_neg h, if_neg (by rw [hx]; simp)]
theorem step_good {b : List Int} {x : Nat} (h : ¬ (b.length : Int) < dA b (x + 1)) (hx : exB (dV b 0) (dV b 1) (dV b 2) (dV b 4) (dDat b x) (dLab b x) = true) : dStep b x = 0 := by unfold dStep; rw [if_neg h, if_pos hx]
theorem lt_toNat {n : Int} {x : Nat} (h : (x : Int) < n) : x < n.toNat := by omega
theorem loop_facts {b : List Int} {x : Nat} (hm : dMark b = true) (h11 : ¬ (b.length : Int) < 11) (hh : headB (dV b 0) (dV b 1) (dV b 2) (dE b) (dV b 4) (dN b) = true) (hlt : (x : Int) < dN b) (h0 : dRun b x = 0) :
    ((b.length : Int) < dA b (x + 1) → decE b = 4) ∧ (¬ (b.length : Int) < dA b (x + 1) → exB (dV b 0) (dV b 1) (dV b 2) (dV b 4) (dDat b x) (dLab b x) = false → decE b = 5) ∧
    (¬ (b.length : Int) < dA b (x + 1) → exB (dV b 0) (dV b 1) (dV b 2) (dV b 4) (dDat b x) (dLab b x) = true → x + 1 ≤ (dN b).toNat ∧ dRun b (x + 1) = 0 ∧ dA b (x + 1) ≤ b.length) := by
  have hx := lt_toNat hlt
  refine ⟨fun h => decEr hm h11 hh hx h0 (step_short h) (by decide), fun h h1 => decEr hm h11 hh hx h0 (step_bad h h1) (by decide), fun h h1 => ⟨hx, ?_, Int.not_lt.1 h⟩⟩
  rw [dRun, if_pos h0]
  exact step_good h h1
theorem end_eq {N p : Int} (h : p ≤ N) : endI (N - p) 0 = if N = p then 0 else 5 := by
  unfold endI
  by_cases e : N = p
  · rw [if_neg (by omega), if_pos e]
  · rw [if_pos ⟨rfl, by omega⟩, if_neg e]
theorem eq_toNat {n : Int} {x : Nat} (h : ¬ (x : Int) < n) (h1 : x ≤ n.toNat) (hn : 1 ≤ n) : x = n.toNat := by omega
theorem loop_out {b : List Int} {x : Nat} (hm : dMark b = true) (h11 : ¬ (b.length : Int) < 11) (hh : headB (dV b 0) (dV b 1) (dV b 2) (dE b) (dV b 4) (dN b) = true) (hge : ¬ (x : Int) < dN b) (h1 : x ≤ (dN b).toNat) (h0 : dRun b x = 0) (ha : dA b x ≤ b.length) :
    decE b = endI ((b.length : Int) - dA b x) 0 ∧ x = (dN b).toNat := by
  have hx := eq_toNat hge h1 (ex_hd hh).2.2.2.2.2.1
  refine ⟨?_, hx⟩
  rw [end_eq ha]
  rw [hx] at h0
  rw [decEz hm h11 hh h0, ← hx]
theorem dX_len (b : List Int) (n : Nat) : (dX' b n).ls.length = n := by simp [dX', Dat.ls]
theorem dX_succ (b : List Int) (x : Nat) : dX' b (x + 1) = std.dapp (dX' b x) (.list [.agg [.list ((dDat b x).map Dat.int), .int (dLab b x)]]) := by
  show Dat.list _ = Dat.list _
  unfold dX'
  rw [List.range_succ, List.map_append]
  rfl
end Go.Proofs.Ytmlfiphpcjkadaa
/- Numbers as bytes. No program in sight. -/
namespace Go.Proofs.Ytmlfiphpcjkadaa
open Go.RowKit
set_option maxRecDepth 100000
set_option linter.unusedSimpArgs false
set_option linter.unusedVariables false
theorem wrap_u8 (z : Int) : IntKind.u8.wrap z = z % 256 := by
  simp [IntKind.wrap, IntKind.bits, IntKind.signed]
theorem wrap_u64 (z : Int) : IntKind.u64.wrap z = z % 18446744073709551616 := by
  simp [IntKind.wrap, IntKind.bits, IntKind.signed]
theorem fdiv_pow (z : Int) (j : Nat) : z.fdiv (2 ^ j) = z / 2 ^ j := Int.fdiv_eq_ediv_of_nonneg _ (Int.le_of_lt (Int.pow_pos (by decide)))
def byteD (n : Int) (j : Nat) : Int := IntKind.u8.wrap (n.fdiv (2 ^ j))
theorem byte_at (n s : Int) (j : Nat) (h : min s.toNat 64 = j) : byteAt n s = byteD n j := by
  unfold byteAt byteD
  rw [show IntKind.u64.bits = 64 from rfl, h]
theorem or_byte {x b : Nat} (hx : x < 2 ^ 56) (hb : b < 256) : stdBin .or .u64 (stdBin .shl .u64 (x : Int) 8) (b : Int) = ((x * 256 + b : Nat) : Int) := by
  have e1 : stdBin .shl .u64 (x : Int) 8 = ((x * 256 : Nat) : Int) := by
    show IntKind.u64.wrap ((x : Int) * 2 ^ (min (8 : Int).toNat 64)) = _
    rw [show min (8 : Int).toNat 64 = 8 from rfl, wrap_u64]
    have : (2 : Nat) ^ 56 = 72057594037927936 := by decide
    omega
  rw [e1]
  show IntKind.u64.wrap (((BitVec.ofInt 64 ((x * 256 : Nat) : Int) ||| BitVec.ofInt 64 (b : Int)).toNat : Nat) : Int) = _
  have h56 : (2 : Nat) ^ 56 = 72057594037927936 := by decide
  have h64 : (2 : Nat) ^ 64 = 18446744073709551616 := by decide
  rw [BitVec.toNat_or, BitVec.ofInt_natCast, BitVec.ofInt_natCast, BitVec.toNat_ofNat, BitVec.toNat_ofNat, Nat.mod_eq_of_lt (by omega), Nat.mod_eq_of_lt (by omega)]
  have h2 : x * 256 = x <<< 8 := by rw [Nat.shiftLeft_eq]
  have h3 : b < 2 ^ 8 := by omega
  rw [h2, ← Nat.shiftLeft_add_eq_or_of_lt h3, ← h2, wrap_u64]
  omega
theorem putK_get (n w : Int) : ∀ (k i : Nat), i < k → (putK n w k).getD i 0 = byteAt n (8 * (w - 1 - (i : Int)))
  | 0, i, h => by omega
  | k + 1, i, h => by
    rw [putK]
    have hl := putK_len n w k
    simp only [List.getD_eq_getElem?_getD]
    by_cases e : i < k
    · rw [List.getElem?_append, if_pos (by omega)]
      have := putK_get n w k i e
      rwa [List.getD_eq_getElem?_getD] at this
    · have : i = k := by omega
      subst this
      rw [List.getElem?_append, if_neg (by omega), hl, Nat.sub_self]
      rfl
theorem byte_nat (n w i : Nat) (hw : w ≤ 8) (hi : i < w) : byteAt (n : Int) (8 * ((w : Int) - 1 - (i : Int))) = ((n / 2 ^ (8 * (w - 1 - i)) % 256 : Nat) : Int) := by
  rw [byte_at _ _ (8 * (w - 1 - i)) (by omega)]
  unfold byteD
  rw [fdiv_pow, wrap_u8]
  have : ((2 : Int) ^ (8 * (w - 1 - i))) = ((2 ^ (8 * (w - 1 - i)) : Nat) : Int) := by
    rw [Int.natCast_pow]; rfl
  rw [this]
  rfl
theorem gF_put (n w : Nat) (hw : w ≤ 8) : ∀ k : Nat, k ≤ w → gF (putK (n : Int) (w : Int) w) 0 k = ((n / 2 ^ (8 * (w - k)) % 2 ^ (8 * k) : Nat) : Int)
  | 0, _ => by simp [gF, Nat.mod_one]
  | k + 1, hk => by
    have ih := gF_put n w hw k (by omega)
    show stdBin .or .u64 (stdBin .shl .u64 (gF (putK (n : Int) (w : Int) w) 0 k) 8) ((putK (n : Int) (w : Int) w).getD (0 + (k : Int)).toNat 0) = _
    have e1 : (0 + (k : Int)).toNat = k := by omega
    rw [ih, e1, putK_get _ _ w k (by omega), byte_nat n w k hw (by omega)]
    have h1 : (2 : Nat) ^ (8 * k) ≤ 2 ^ 56 := Nat.pow_le_pow_right (by decide) (by omega)
    have h0 : 0 < (2 : Nat) ^ (8 * k) := Nat.pow_pos (by decide)
    rw [or_byte (Nat.lt_of_lt_of_le (Nat.mod_lt _ h0) h1) (Nat.mod_lt _ (by decide))]
    obtain ⟨m, hm⟩ : ∃ m, m = n / 2 ^ (8 * (w - (k + 1))) := ⟨_, rfl⟩
    have e2 : n / 2 ^ (8 * (w - 1 - k)) = m := by rw [hm]; congr 2; omega
    have e3 : n / 2 ^ (8 * (w - k)) = m / 256 := by
      rw [hm, Nat.div_div_eq_div_mul]
      have : 8 * (w - k) = 8 * (w - (k + 1)) + 8 := by omega
      rw [this, Nat.pow_add]
    have e4 : (2 : Nat) ^ (8 * (k + 1)) = 256 * 2 ^ (8 * k) := by
      have : 8 * (k + 1) = 8 + 8 * k := by omega
      rw [this, Nat.pow_add]
    rw [← hm, e2, e3, e4, Nat.mod_mul]
    congr 1
    omega
theorem gF_mid {X E Y : List Int} : gF (X ++ (E ++ Y)) (X.length : Int) E.length = gF E 0 E.length := by
  refine gF_congr _ fun i hi => ?_
  have e1 : ((X.length : Int) + (i : Int)).toNat = X.length + i := by omega
  have e2 : (0 + (i : Int)).toNat = i := by omega
  rw [e1, e2]
  simp only [List.getD_eq_getElem?_getD]
  rw [List.getElem?_append, if_neg (by omega), show X.length + i - X.length = i from by omega, List.getElem?_append, if_pos hi]
theorem take_mid {X E Y : List Int} : std.lsub (X ++ (E ++ Y)) (X.length : Int) (E.length : Int) = E := by
  show List.take (E.length : Int).toNat (List.drop (X.length : Int).toNat (X ++ (E ++ Y))) = E
  have e1 : ((E.length : Nat) : Int).toNat = E.length := by omega
  have e2 : ((X.length : Nat) : Int).toNat = X.length := by omega
  rw [e1, e2, List.drop_left, List.take_left]
/-- A byte, read. -/
theorem gF_byte {l : List Int} {a : Int} (h : 0 ≤ l.getD a.toNat 0 ∧ l.getD a.toNat 0 ≤ 255) : gF l a 1 = l.getD a.toNat 0 := by
  show stdBin .or .u64 (stdBin .shl .u64 0 8) (l.getD (a + (0 : Nat)).toNat 0) = _
  have e0 : a + ((0 : Nat) : Int) = a := by omega
  rw [e0]
  obtain ⟨b, hb⟩ : ∃ b : Nat, l.getD a.toNat 0 = (b : Int) := ⟨(l.getD a.toNat 0).toNat, by omega⟩
  rw [hb] at h ⊢
  have := or_byte (x := 0) (b := b) (by decide) (by omega)
  simpa using this
theorem gF_two {l : List Int} {a : Int} (h0 : 0 ≤ a) (h : 0 ≤ l.getD a.toNat 0 ∧ l.getD a.toNat 0 ≤ 255) (h' : 0 ≤ l.getD (a + 1).toNat 0 ∧ l.getD (a + 1).toNat 0 ≤ 255) : gF l a 2 = l.getD a.toNat 0 * 256 + l.getD (a + 1).toNat 0 := by
  have h1 := gF_byte h
  show stdBin .or .u64 (stdBin .shl .u64 (gF l a 1) 8) (l.getD (a + (1 : Nat)).toNat 0) = _
  rw [h1]
  have e0 : a + ((1 : Nat) : Int) = a + 1 := rfl
  rw [e0]
  obtain ⟨x, hx⟩ : ∃ x : Nat, l.getD a.toNat 0 = (x : Int) := ⟨(l.getD a.toNat 0).toNat, by omega⟩
  obtain ⟨b, hb⟩ : ∃ b : Nat, l.getD (a + 1).toNat 0 = (b : Int) := ⟨(l.getD (a + 1).toNat 0).toNat, by omega⟩
  rw [hx] at h ⊢
  rw [hb] at h' ⊢
  have h56 : (2 : Nat) ^ 56 = 72057594037927936 := by decide
  rw [or_byte (x := x) (b := b) (by omega) (by omega)]
  push_cast
  rfl
theorem put_one (v : Int) : putK (IntKind.u64.wrap v) 1 1 = [v % 256] := by
  show [] ++ [byteAt (IntKind.u64.wrap v) (8 * (1 - 1 - ((0 : Nat) : Int)))] = _
  rw [byte_at _ _ 0 (by decide)]
  unfold byteD
  rw [List.nil_append, fdiv_pow, wrap_u8, wrap_u64]
  congr 1
  omega
theorem put_two (v : Int) (h : 0 ≤ v ∧ v ≤ 65535) : putK (IntKind.u64.wrap v) 2 2 = [v / 256, v % 256] := by
  show ([] ++ [byteAt (IntKind.u64.wrap v) (8 * (2 - 1 - ((0 : Nat) : Int)))]) ++ [byteAt (IntKind.u64.wrap v) (8 * (2 - 1 - ((1 : Nat) : Int)))] = _
  rw [byte_at _ _ 8 (by decide), byte_at _ _ 0 (by decide)]
  unfold byteD
  rw [List.nil_append, fdiv_pow, fdiv_pow, wrap_u8, wrap_u8, wrap_u64]
  have e1 : v % 18446744073709551616 = v := by omega
  rw [e1]
  have e2 : v / 2 ^ 8 % 256 = v / 256 := by
    have : (2 : Int) ^ 8 = 256 := by decide
    rw [this]; omega
  have e3 : v / 2 ^ 0 % 256 = v % 256 := by
    have : (2 : Int) ^ 0 = 1 := by decide
    rw [this]; omega
  rw [e2, e3]
  rfl
/-- Texts that are the same, of bytes that are. -/
theorem str_eq {a b : List Int} (h : a = b) : ((strOfNums a).toList == (strOfNums b).toList) = true := by rw [h, beq_iff_eq]
end Go.Proofs.Ytmlfiphpcjkadaa
/- Layer 22: what is written is read as it was; what is read is written as it was. -/
namespace Go.Proofs.Ytmlfiphpcjkadaa
open Go.RowKit
set_option maxRecDepth 100000
set_option linter.unusedSimpArgs false
set_option linter.unusedVariables false
set_option maxHeartbeats 4000000
def Byt (b : List Int) : Prop := ∀ i : Nat, 0 ≤ b.getD i 0 ∧ b.getD i 0 ≤ 255
theorem byt_of {b : List Int} (h : Fits .u8 b) : Byt b := fun i => h.u8 i
theorem getD_app {a b : List Int} {i : Nat} : (a ++ b).getD i 0 = if i < a.length then a.getD i 0 else b.getD (i - a.length) 0 := by
  simp only [List.getD_eq_getElem?_getD, List.getElem?_append]
  split <;> rfl
theorem gF_at {b : List Int} (hb : Byt b) {p : Int} : gF b p 1 = b.getD p.toNat 0 := gF_byte (hb _)
theorem dV_at {b : List Int} (hb : Byt b) (i : Nat) : dV b i = b.getD (4 + i) 0 := by
  unfold dV
  have e : ((4 : Int) + (i : Int)).toNat = 4 + i := by omega
  rw [gF_at hb, e]
  have := hb (4 + i)
  exact w64 (by omega) (by omega)
theorem dN_at {b : List Int} (hb : Byt b) : dN b = b.getD 9 0 * 256 + b.getD 10 0 := by
  unfold dN
  have h1 := hb 9
  have h2 := hb 10
  rw [gF_two (by decide) (hb _) (hb _)]
  show IntKind.i64.wrap (b.getD 9 0 * 256 + b.getD 10 0) = _
  exact w64 (by omega) (by omega)
theorem dLab_at {b : List Int} (hb : Byt b) (i : Nat) : dLab b i = b.getD (dA b i).toNat 0 := by
  unfold dLab
  rw [gF_at hb]
  have := hb (dA b i).toNat
  exact w64 (by omega) (by omega)
/-! ### The same head, the same places -/
theorem head_same {a b : List Int} (h : ∀ i : Nat, i < 11 → a.getD i 0 = b.getD i 0) : (∀ i : Nat, i < 5 → dV a i = dV b i) ∧ dE a = dE b ∧ dN a = dN b ∧ ∀ i, dA a i = dA b i := by
  have hv : ∀ i : Nat, i < 5 → dV a i = dV b i := by
    intro i hi
    unfold dV
    congr 1
    refine gF_congr _ fun j hj => h _ ?_
    omega
  have hn : dN a = dN b := by
    unfold dN
    congr 1
    refine gF_congr _ fun j hj => h _ ?_
    omega
  have hs : dS a = dS b := by
    unfold dS
    rw [hv 0 (by decide), hv 1 (by decide), hv 2 (by decide)]
  refine ⟨hv, ?_, hn, fun i => ?_⟩
  · unfold dE
    rw [hv 3 (by decide)]
  · unfold dA
    rw [hs]
theorem decE_zero {b : List Int} (h : decE b = 0) : dMark b = true ∧ 11 ≤ (b.length : Int) ∧ headB (dV b 0) (dV b 1) (dV b 2) (dE b) (dV b 4) (dN b) = true ∧ dRun b (dN b).toNat = 0 ∧ (b.length : Int) = dA b (dN b).toNat := by
  unfold decE at h
  by_cases h1 : (b.length : Int) < 4
  · rw [if_pos h1] at h; omega
  · rw [if_neg h1] at h
    cases h2 : dMark b with
    | false => rw [h2, if_pos rfl] at h; omega
    | true =>
      rw [h2, if_neg (by simp)] at h
      by_cases h3 : (b.length : Int) < 11
      · rw [if_pos h3] at h; omega
      · rw [if_neg h3] at h
        cases h4 : headB (dV b 0) (dV b 1) (dV b 2) (dE b) (dV b 4) (dN b) with
        | false => rw [h4, if_pos rfl] at h; omega
        | true =>
          rw [h4, if_neg (by simp)] at h
          by_cases h5 : dRun b (dN b).toNat = 0
          · rw [if_pos h5] at h
            refine ⟨rfl, by omega, rfl, h5, ?_⟩
            by_cases h6 : (b.length : Int) = dA b (dN b).toNat
            · exact h6
            · rw [if_neg h6] at h; omega
          · rw [if_neg h5] at h; omega
theorem dRun_zero {b : List Int} : ∀ {n : Nat}, dRun b n = 0 → ∀ i, i < n → dStep b i = 0
  | 0, _, i, hi => absurd hi (Nat.not_lt_zero _)
  | n + 1, h, i, hi => by
    rw [dRun] at h
    by_cases h0 : dRun b n = 0
    · rw [if_pos h0] at h
      by_cases e : i = n
      · subst e; exact h
      · exact dRun_zero h0 i (by omega)
    · rw [if_neg h0] at h
      exact absurd h h0
theorem dRun_all {b : List Int} : ∀ {n : Nat}, (∀ i, i < n → dStep b i = 0) → dRun b n = 0
  | 0, _ => rfl
  | n + 1, h => by
    rw [dRun, if_pos (dRun_all fun i hi => h i (by omega))]
    exact h n (by omega)
theorem dStep_zero {b : List Int} {i : Nat} (h : dStep b i = 0) : dA b (i + 1) ≤ (b.length : Int) ∧ exB (dV b 0) (dV b 1) (dV b 2) (dV b 4) (dDat b i) (dLab b i) = true := by
  unfold dStep at h
  by_cases h1 : (b.length : Int) < dA b (i + 1)
  · rw [if_pos h1] at h; omega
  · rw [if_neg h1] at h
    refine ⟨by omega, ?_⟩
    cases h2 : exB (dV b 0) (dV b 1) (dV b 2) (dV b 4) (dDat b i) (dLab b i) with
    | true => rfl
    | false => rw [h2, if_neg (by simp)] at h; omega
/-- Bytes that begin alike and are read well are as long. -/
theorem long_same {a b : List Int} (ha : decE a = 0) (hb : decE b = 0) (h : ∀ i : Nat, i < 11 → a.getD i 0 = b.getD i 0) : a.length = b.length := by
  obtain ⟨_, _, _, _, h1⟩ := decE_zero ha
  obtain ⟨_, _, _, _, h2⟩ := decE_zero hb
  obtain ⟨_, _, h3, h4⟩ := head_same h
  rw [h4, h3, ← h2] at h1
  omega
/-! ### What is read -/
theorem dX_at {b : List Int} {n i : Nat} (hi : i < n) : (dX' b n).at i = .agg [.list ((dDat b i).map Dat.int), .int (dLab b i)] := by
  unfold Dat.at dX'
  simp only [Dat.ls, List.getD_eq_getElem?_getD, List.getElem?_map, List.getElem?_range hi]
  rfl
theorem ints_map22 (l : List Int) : (Dat.list (l.map Dat.int)).ints = l := by
  simp only [Dat.ints, Dat.ls, List.map_map]
  conv => rhs; rw [← List.map_id l]
  rfl
theorem dX_dat {b : List Int} {n i : Nat} (hi : i < n) : exDat (dX' b n) i = dDat b i ∧ exLab (dX' b n) i = dLab b i := by
  unfold exDat exLab
  rw [dX_at hi]
  exact ⟨ints_map22 _, rfl⟩
theorem allTo_of {g : Nat → Bool} : ∀ {n : Nat}, (∀ i, i < n → g i = true) → allTo g n = true
  | 0, _ => rfl
  | n + 1, h => by
    rw [allTo, allTo_of fun i hi => h i (by omega), h n (by omega)]
    rfl
theorem read_may {b : List Int} (h : decE b = 0) : mayDs (dV b 0) (dV b 1) (dV b 2) (dE b) (dV b 4) (dX' b (dN b).toNat) = true := by
  obtain ⟨_, _, h1, h2, _⟩ := decE_zero h
  have hn := (ex_hd h1).2.2.2.2.2
  unfold mayDs
  rw [dX_len, Bool.and_eq_true]
  refine ⟨?_, allTo_of fun i hi => ?_⟩
  · rw [Int.toNat_of_nonneg (by omega)]
    exact h1
  · have := (dStep_zero (dRun_zero h2 i hi)).2
    obtain ⟨e1, e2⟩ := dX_dat (b := b) hi
    unfold exDat at e1
    unfold exLab at e2
    rw [e1, e2]
    exact this
theorem str_bytes {l m : List Int} (hl : Byt l) (hm : Byt m) (h : strOfNums l = strOfNums m) : l = m := by
  have h1 := congrArg (fun s : ByteArray => s.data.toList) h
  simp only [strOfNums_data] at h1
  have hlen : l.length = m.length := by
    have := congrArg List.length h1
    simpa using this
  refine List.ext_getElem hlen fun i h2 h3 => ?_
  have h4 : UInt8.ofNat (l[i]).toNat = UInt8.ofNat (m[i]).toNat := by
    have := congrArg (fun q => q[i]?) h1
    simpa [List.getElem?_eq_getElem h2, List.getElem?_eq_getElem h3] using this
  have a1 := hl i
  have a2 := hm i
  rw [List.getD_eq_getElem?_getD, List.getElem?_eq_getElem h2] at a1
  rw [List.getD_eq_getElem?_getD, List.getElem?_eq_getElem h3] at a2
  simp only [Option.getD_some] at a1 a2
  have h5 := congrArg UInt8.toNat h4
  simp only [UInt8.toNat_ofNat'] at h5
  omega
theorem dMark_at {b : List Int} (hb : Byt b) (h4 : 4 ≤ b.length) (h : dMark b = true) : b.take 4 = bMark := by
  have h1 : std.lsub b 0 4 = b.take 4 := rfl
  have h2 := mark_iff.2 h
  rw [h1] at h2
  have h3 : strOfNums (b.take 4) = strOfNums bMark := by
    rw [ByteArray.toList_eq, ByteArray.toList_eq] at h2
    exact Go.WideShapes.bytes_inj h2
  refine str_bytes (fun i => ?_) (fun i => ?_) h3
  · rw [List.getD_eq_getElem?_getD, List.getElem?_take]
    split
    · have := hb i
      rwa [List.getD_eq_getElem?_getD] at this
    · simp
  · match i with
    | 0 => decide
    | 1 => decide
    | 2 => decide
    | 3 => decide
    | i + 4 => simp [bMark]
theorem i8_byte {v : Int} (h : 0 ≤ v ∧ v ≤ 255) : IntKind.i8.wrap v % 256 = v := by
  rw [wrap8]
  omega
theorem bDat_read {l : List Int} (hl : Byt l) : ∀ j : Nat, j ≤ l.length → bDat (i8L l) j = l.take j
  | 0, _ => by simp [bDat]
  | j + 1, h => by
    rw [bDat, bDat_read hl j (by omega), bU8, put_one, take_getD l j (by omega)]
    have e : (i8L l).getD j 0 = IntKind.i8.wrap (l.getD j 0) := by
      unfold i8L
      simp only [List.getD_eq_getElem?_getD, List.getElem?_map, List.getElem?_eq_getElem (show j < l.length by omega)]
      rfl
    rw [e, i8_byte (hl j)]
theorem byt_take {b : List Int} (hb : Byt b) (n m : Nat) : Byt ((b.drop n).take m) := fun i => by
  rw [List.getD_eq_getElem?_getD, List.getElem?_take]
  split
  · rw [List.getElem?_drop]
    have := hb (n + i)
    rwa [List.getD_eq_getElem?_getD] at this
  · simp
theorem eleven {b : List Int} (h : 11 ≤ b.length) : b.take 11 = b.take 4 ++ [b.getD 4 0] ++ [b.getD 5 0] ++ [b.getD 6 0] ++ [b.getD 7 0] ++ [b.getD 8 0] ++ [b.getD 9 0, b.getD 10 0] := by
  rw [take_getD b 10 (by omega), take_getD b 9 (by omega), take_getD b 8 (by omega), take_getD b 7 (by omega), take_getD b 6 (by omega), take_getD b 5 (by omega), take_getD b 4 (by omega)]
  simp only [List.append_assoc, List.cons_append, List.nil_append]
/-- What is read is written as it was. -/
theorem read_back {b : List Int} (hb : Byt b) (h : decE b = 0) : bDs (dV b 0) (dV b 1) (dV b 2) (dE b) (dV b 4) (dX' b (dN b).toNat) = b := by
  obtain ⟨hm, h11, hh, hr, hlen⟩ := decE_zero h
  obtain ⟨g1, g2, g3, g4, g5, g6, g7⟩ := ex_hd hh
  have hc := chw_in g1 g2 g3
  have hs : dV b 0 * dV b 1 * dV b 2 = dS b := rfl
  rw [hs] at hc
  have hmark := dMark_at hb (by omega) hm
  have key : ∀ i : Nat, i ≤ (dN b).toNat → b.take (dA b i).toNat = bHead (dV b 0) (dV b 1) (dV b 2) (dE b) (dV b 4) (dN b) ++ bExs (dX' b (dN b).toNat) i := by
    intro i
    induction i with
    | zero =>
      intro _
      have e0 : (dA b 0).toNat = 11 := by unfold dA; omega
      rw [e0, eleven (by omega), hmark]
      unfold bHead b3 bU8 bU16 bExs
      rw [put_one, put_one, put_one, put_one, put_one, put_two _ (by omega)]
      have q4 := hb 4
      have q5 := hb 5
      have q6 := hb 6
      have q7 := hb 7
      have q8 := hb 8
      have q9 := hb 9
      have q10 := hb 10
      have r0 : dV b 0 % 256 = b.getD 4 0 := by rw [dV_at hb 0]; show b.getD 4 0 % 256 = _; omega
      have r1 : dV b 1 % 256 = b.getD 5 0 := by rw [dV_at hb 1]; show b.getD 5 0 % 256 = _; omega
      have r2 : dV b 2 % 256 = b.getD 6 0 := by rw [dV_at hb 2]; show b.getD 6 0 % 256 = _; omega
      have r3 : dE b % 256 = b.getD 7 0 := by unfold dE; rw [dV_at hb 3]; exact i8_byte q7
      have r4 : dV b 4 % 256 = b.getD 8 0 := by rw [dV_at hb 4]; show b.getD 8 0 % 256 = _; omega
      have r5 : dN b / 256 = b.getD 9 0 := by rw [dN_at hb]; omega
      have r6 : dN b % 256 = b.getD 10 0 := by rw [dN_at hb]; omega
      rw [r0, r1, r2, r3, r4, r5, r6]
      simp only [List.append_assoc, List.append_nil]
    | succ i ih =>
      intro hi
      have ih := ih (by omega)
      have hst := (dStep_zero (dRun_zero hr i (by omega))).1
      have hsu := dA_succ b i
      have ha : 0 ≤ dA b i := by
        unfold dA
        have := Int.mul_nonneg (show (0 : Int) ≤ (i : Int) by omega) (show 0 ≤ 1 + dS b by omega)
        omega
      have e1 : (dA b (i + 1)).toNat = (dA b i).toNat + 1 + (dS b).toNat := by omega
      have e2 : b.take (dA b (i + 1)).toNat = b.take ((dA b i).toNat + 1) ++ (b.drop ((dA b i).toNat + 1)).take (dS b).toNat := by rw [e1, List.take_add]
      obtain ⟨x1, x2⟩ := dX_dat (b := b) (n := (dN b).toNat) (i := i) (by omega)
      rw [e2, take_getD b _ (by omega), ih, bExs, x1, x2]
      have e3 : (dA b i + 1).toNat = (dA b i).toNat + 1 := by omega
      have hd : dDat b i = i8L ((b.drop ((dA b i).toNat + 1)).take (dS b).toNat) := by
        unfold dDat
        rw [← e3]
        rfl
      have hl : ((b.drop ((dA b i).toNat + 1)).take (dS b).toNat).length = (dS b).toNat := by
        rw [List.length_take, List.length_drop]; omega
      have hdl : (dDat b i).length = (dS b).toNat := by rw [hd, i8L, List.length_map, hl]
      rw [hdl, hd, bDat_read (byt_take hb _ _) _ (by omega)]
      have e4 : List.take (dS b).toNat (List.take (dS b).toNat (List.drop ((dA b i).toNat + 1) b)) = List.take (dS b).toNat (List.drop ((dA b i).toNat + 1) b) := by rw [List.take_take, Nat.min_self]
      rw [e4, bU8, put_one]
      have q := hb (dA b i).toNat
      have r : dLab b i % 256 = b.getD (dA b i).toNat 0 := by rw [dLab_at hb]; omega
      rw [r]
      simp only [List.append_assoc]
  have hfin := key (dN b).toNat (Nat.le_refl _)
  unfold bDs
  rw [dX_len, Int.toNat_of_nonneg (by omega), ← hfin, ← hlen]
  exact List.take_of_length_le (by omega)
end Go.Proofs.Ytmlfiphpcjkadaa
/- Layer 22: two datasets, alike; a light one. -/
namespace Go.Proofs.Ytmlfiphpcjkadaa
open Go.RowKit
set_option maxRecDepth 1000000
set_option linter.unusedSimpArgs false
set_option linter.unusedVariables false
set_option maxHeartbeats 16000000
set_option cbv.maxSteps 10000000
theorem getD_ext {a b : List Int} (hl : a.length = b.length) (h : ∀ j, j < a.length → a.getD j 0 = b.getD j 0) : a = b := by
  apply List.ext_getElem hl
  intro i h1 h2
  have := h i h1
  rwa [List.getD_eq_getElem?_getD, List.getD_eq_getElem?_getD, List.getElem?_eq_getElem h1, List.getElem?_eq_getElem h2] at this
theorem ne_at {a b : List Int} {j : Nat} (h : a.getD j 0 ≠ b.getD j 0) : (a == b) = false := by
  rw [beq_eq_false_iff_ne]
  rintro rfl
  exact h rfl
theorem ne_len {a b : List Int} (h : ¬ a.length = b.length) : (a == b) = false := by
  rw [beq_eq_false_iff_ne]
  rintro rfl
  exact h rfl
theorem eq8_ok : CtrOk Try.prog 43 (boolC [.sl (.int .i8), .sl (.int .i8)] eqF) := by
  obtain ⟨G, hG⟩ : ∃ G : List (FuncId × Ctr), G = [] := ⟨_, rfl⟩
  refine fn_ok (ck := true) Try.func43 rfl tt_ok (G := G) (by rw [hG]; exact trivial) mixed (by kernel_rfl) ?_
  intro xa xs h hx hp
  obtain ⟨a0, as0, x0, xs0, rfl, rfl, h0, H1⟩ := svArgs_cons h
  obtain ⟨a1, as1, x1, xs1, rfl, rfl, h1, H2⟩ := svArgs_cons H1
  obtain ⟨rfl, rfl⟩ := svArgs_nil H2
  obtain ⟨a, rfl, rfl⟩ := argSV_ints h0
  obtain ⟨b, rfl, rfl⟩ := argSV_ints h1
  have sa : Fits .i8 a ∧ ci a.length ≤ 9223372036854775807 := svf_ints (hx (.iimm .i8 a) (by simp))
  have sb : Fits .i8 b ∧ ci b.length ≤ 9223372036854775807 := svf_ints (hx (.iimm .i8 b) (by simp))
  have SA := Lib.hid sa
  clear sa
  have SB := Lib.hid sb
  clear sb
  clear hx hp h h0 H1 h1 H2
  generalize hA : std = A
  subst hG
  generalize h_c : ci = c
  generalize h_fR : eqF = fR
  cbv
  (repeat' (first | apply And.intro | apply BrB.mk | apply BrP.mk | intro _))
  all_goals try ((refine loop_at Nat 13 (fun x => [(4, .any), (5, .any), (13, .v (.int .i64 (c x)))]) (fun _ o => o) (fun x => x ≤ a.length ∧ ∀ j, j < x → a.getD j 0 = b.getD j 0) (fun x => a.length - x) 0 ⟨Nat.zero_le _, fun j hj => absurd hj (Nat.not_lt_zero _)⟩ ?_ ?_)
                 focus
                   show AS.le _ _
                   (cbv; (repeat' (first | apply And.intro | apply BrB.mk | apply BrP.mk | intro _)); all_goals (subst hA; subst h_c; subst h_fR); all_goals (have f_sa := SA.out; have f_sb := SB.out); all_goals (try simp only [std, stdBin, stdCmp, stdUna, stdIn, ci, beq_iff_eq, bne_iff_ne, beq_eq_false_iff_ne, bne_eq_false_iff_eq, decide_eq_true_eq, decide_eq_false_iff_not, Bool.not_true, Bool.not_false, Bool.not_eq_true', Bool.not_eq_false', Bool.not_not, tn0, tn1, tn2, tn3] at *); (all_goals first | exact True.intro | rfl | exact congrArg (Value.int .i64) (by omega)))
                   done)
  all_goals try (intro x hx; cbv; (repeat' (first | apply And.intro | apply BrB.mk | apply BrP.mk | intro _)))
  all_goals try (refine ⟨x + 1, ?_, ?_, ?_⟩)
  all_goals try (show AS.le _ _; cbv; (repeat' (first | apply And.intro | apply BrB.mk | apply BrP.mk | intro _)))
  (all_goals (subst hA; subst h_c; subst h_fR); all_goals (have f_sa := SA.out; have f_sb := SB.out); all_goals (try simp only [std, stdBin, stdCmp, stdUna, stdIn, ci, beq_iff_eq, bne_iff_ne, beq_eq_false_iff_ne, bne_eq_false_iff_eq, decide_eq_true_eq, decide_eq_false_iff_not, Bool.not_true, Bool.not_false, Bool.not_eq_true', Bool.not_eq_false', Bool.not_not, tn0, tn1, tn2, tn3, eqF, Int.toNat_natCast] at *); all_goals (try omega))
  all_goals first | exact True.intro | omega | exact congrArg (Value.int .i64) (Int.natCast_succ _).symm | (refine ⟨by omega, fun j hj => ?_⟩; by_cases e : j = x; (subst e; assumption); exact hx.2 j (by omega)) | (refine vb ?_; show (a == b) = false; exact ne_at (by assumption)) | (refine vb ?_; show (a == b) = false; exact ne_len (by omega)) | (refine vb ?_; show (a == b) = true; rw [beq_iff_eq]; exact getD_ext (by omega) (fun j hj => hx.2 j (by omega))) | trace_state
/-! ### Alike -/
def sameEx (x y : Dat) : Bool := decide ((x.fld 1).z = (y.fld 1).z) && ((x.fld 0).ints == (y.fld 0).ints)
def sameExF (xa : List AV) : Bool := match xa with
  | [.st [.l a, .z m], .st [.l b, .z n]] => decide (m = n) && (a == b)
  | _ => false
theorem sameEx_ok : CtrOk Try.prog 42 (boolC [exTy, exTy] sameExF) := by
  obtain ⟨G, hG⟩ : ∃ G : List (FuncId × Ctr), G = [(43, boolC [.sl (.int .i8), .sl (.int .i8)] eqF)] := ⟨_, rfl⟩
  refine fn_ok (ck := true) Try.func42 rfl tt_ok (G := G) (by rw [hG]; exact ⟨⟨eq8_ok, by unfold FnOk; kernel_rfl⟩, trivial⟩) mixed (by kernel_rfl) ?_
  intro xa xs h hx hp
  obtain ⟨a0, as0, x0, xs0, rfl, rfl, h0, H1⟩ := svArgs_cons h
  obtain ⟨a1, as1, x1, xs1, rfl, rfl, h1, H2⟩ := svArgs_cons H1
  obtain ⟨rfl, rfl⟩ := svArgs_nil H2
  obtain ⟨aD, aL, rfl, rfl⟩ := argSV_ex h0
  obtain ⟨bD, bL, rfl, rfl⟩ := argSV_ex h1
  have sa : (Fits .i8 aD ∧ ci aD.length ≤ 9223372036854775807) ∧ (-9223372036854775808 ≤ aL ∧ aL ≤ 9223372036854775807) := svf_ex (hx (.agg [.iimm .i8 aD, .v (.int .i64 aL)]) (List.mem_of_getElem? (i := 0) rfl))
  have sb : (Fits .i8 bD ∧ ci bD.length ≤ 9223372036854775807) ∧ (-9223372036854775808 ≤ bL ∧ bL ≤ 9223372036854775807) := svf_ex (hx (.agg [.iimm .i8 bD, .v (.int .i64 bL)]) (List.mem_of_getElem? (i := 1) rfl))
  have SA := Lib.hid sa
  clear sa
  have SB := Lib.hid sb
  clear sb
  clear hx hp h h0 H1 h1 H2
  generalize hA : std = A
  subst hG
  generalize h_c : ci = c
  generalize h_fe : eqF = fe
  generalize h_fR : sameExF = fR
  cbv
  (repeat' (first | apply And.intro | apply BrB.mk | apply BrP.mk | intro _))
  (all_goals (subst hA; subst h_c; subst h_fe; subst h_fR); all_goals (have f_sa := SA.out; have f_sb := SB.out); all_goals (try simp only [std, stdBin, stdCmp, stdUna, stdIn, ci, beq_iff_eq, bne_iff_ne, beq_eq_false_iff_ne, bne_eq_false_iff_eq, decide_eq_true_eq, decide_eq_false_iff_not, Bool.not_true, Bool.not_false, Bool.not_eq_true', Bool.not_eq_false', Bool.not_not, tn0, tn1, tn2, tn3, eqF, sameExF] at *); all_goals (try omega))
  all_goals (refine vb ?_)
  all_goals first | (simp_all; done) | trace_state
def sameDs (c h w e k : Int) (x : Dat) (c' h' w' e' k' : Int) (y : Dat) : Bool := decide (c = c' ∧ h = h' ∧ w = w' ∧ e = e' ∧ k = k' ∧ x.ls.length = y.ls.length) && allTo (fun i => sameEx (x.at i) (y.at i)) x.ls.length
def sameDsF (xa : List AV) : Bool := match xa with
  | [.st [.st [.z c, .z h, .z w], .z e, .z k, .d x], .st [.st [.z c', .z h', .z w'], .z e', .z k', .d y]] => sameDs c h w e k x c' h' w' e' k' y
  | _ => false
theorem sameDs_ok : CtrOk Try.prog 18 (boolC [dsTy, dsTy] sameDsF) := by
  obtain ⟨G, hG⟩ : ∃ G : List (FuncId × Ctr), G = [(42, boolC [exTy, exTy] sameExF)] := ⟨_, rfl⟩
  refine fn_inl (ck := true) [(41, Try.f41)] ⟨⟨Try.func41, by unfold FnOk; kernel_rfl, by kernel_rfl⟩, trivial⟩ Try.func18 rfl tt_ok (G := G) (by rw [hG]; exact ⟨⟨sameEx_ok, by unfold FnOk; kernel_rfl⟩, trivial⟩) mixed (by kernel_rfl) ?_
  intro xa xs h hx hp
  obtain ⟨a0, as0, x0, xs0, rfl, rfl, h0, H1⟩ := svArgs_cons h
  obtain ⟨a1, as1, x1, xs1, rfl, rfl, h1, H2⟩ := svArgs_cons H1
  obtain ⟨rfl, rfl⟩ := svArgs_nil H2
  obtain ⟨ac, ah, aw, ae, ak, ax, rfl, rfl⟩ := argSV_ds h0
  obtain ⟨bc, bh, bw, be, bk, bx, rfl, rfl⟩ := argSV_ds h1
  have sa : (-9223372036854775808 ≤ ac ∧ ac ≤ 9223372036854775807) ∧ (-9223372036854775808 ≤ ah ∧ ah ≤ 9223372036854775807) ∧ (-9223372036854775808 ≤ aw ∧ aw ≤ 9223372036854775807) ∧ (-9223372036854775808 ≤ ae ∧ ae ≤ 9223372036854775807) ∧ (-9223372036854775808 ≤ ak ∧ ak ≤ 9223372036854775807) ∧ ((ci ax.ls.length ≤ 9223372036854775807) ∧ Wt (.sl exTy) ax) := svf_ds (hx (.agg [.v (.int .i64 ac), .v (.int .i64 ah), .v (.int .i64 aw), .v (.int .i64 ae), .v (.int .i64 ak), .imm exTy ax]) (List.mem_of_getElem? (i := 0) rfl))
  have sb : (-9223372036854775808 ≤ bc ∧ bc ≤ 9223372036854775807) ∧ (-9223372036854775808 ≤ bh ∧ bh ≤ 9223372036854775807) ∧ (-9223372036854775808 ≤ bw ∧ bw ≤ 9223372036854775807) ∧ (-9223372036854775808 ≤ be ∧ be ≤ 9223372036854775807) ∧ (-9223372036854775808 ≤ bk ∧ bk ≤ 9223372036854775807) ∧ ((ci bx.ls.length ≤ 9223372036854775807) ∧ Wt (.sl exTy) bx) := svf_ds (hx (.agg [.v (.int .i64 bc), .v (.int .i64 bh), .v (.int .i64 bw), .v (.int .i64 be), .v (.int .i64 bk), .imm exTy bx]) (List.mem_of_getElem? (i := 1) rfl))
  have SA := Lib.hid sa
  clear sa
  have SB := Lib.hid sb
  clear sb
  clear hx hp h h0 H1 h1 H2
  generalize hA : std = A
  subst hG
  generalize h_c : ci = c
  generalize h_fs : sameExF = fs
  generalize h_fR : sameDsF = fR
  cbv
  (repeat' (first | apply And.intro | apply BrB.mk | apply BrP.mk | intro _))
  all_goals try (refine loop_at Nat 17 (fun x => [(6, .any), (7, .any), (8, .any), (9, .any), (17, .v (.int .i64 (c x)))]) (fun _ o => o) (fun x => x ≤ ax.ls.length ∧ allTo (fun i => sameEx (ax.at i) (bx.at i)) x = true) (fun x => ax.ls.length - x) 0 ⟨Nat.zero_le _, rfl⟩ ?_ ?_
                 focus
                   show AS.le _ _
                   (cbv; (repeat' (first | apply And.intro | apply BrB.mk | apply BrP.mk | intro _)); all_goals (subst hA; subst h_c; subst h_fs; subst h_fR); all_goals (have f_sa := SA.out; have f_sb := SB.out); all_goals (try simp only [std, stdBin, stdCmp, stdUna, stdIn, ci, beq_iff_eq, bne_iff_ne, beq_eq_false_iff_ne, bne_eq_false_iff_eq, decide_eq_true_eq, decide_eq_false_iff_not, Bool.not_true, Bool.not_false, Bool.not_eq_true', Bool.not_eq_false', Bool.not_not, tn0, tn1, tn2, tn3] at *); (all_goals first | exact True.intro | rfl | exact congrArg (Value.int .i64) (by omega)))
                   done)
  all_goals try (intro x hx; cbv; refine BrB.mk (fun gx => ?_) (fun gx => ?_))
  all_goals (repeat' (first | apply And.intro | apply BrB.mk | apply BrP.mk | intro _))
  all_goals try (refine ⟨x + 1, ?_, ?_, ?_⟩)
  all_goals try (show AS.le _ _; cbv; (repeat' (first | apply And.intro | apply BrB.mk | apply BrP.mk | intro _)))
  (all_goals (subst hA; subst h_c; subst h_fs; subst h_fR); all_goals (have f_sa := SA.out; have f_sb := SB.out); all_goals (try simp only [std, stdBin, stdCmp, stdUna, stdIn, ci, beq_iff_eq, bne_iff_ne, beq_eq_false_iff_ne, bne_eq_false_iff_eq, decide_eq_true_eq, decide_eq_false_iff_not, Bool.not_true, Bool.not_false, Bool.not_eq_true', Bool.not_eq_false', Bool.not_not, tn0, tn1, tn2, tn3, sameExF, sameDsF, Int.toNat_natCast] at *); all_goals (try omega))
  all_goals first
    | exact True.intro
    | exact congrArg (Value.int .i64) (Int.natCast_succ _).symm
    | omega
    | (have hs : sameEx (ax.at x) (bx.at x) = false := (by assumption)
       refine vb ?_
       unfold sameDs
       rw [allTo_false (x := x) (by omega) hs, Bool.and_false]
       done)
    | (refine ⟨by omega, ?_⟩
       have hs : sameEx (ax.at x) (bx.at x) = true := (by assumption)
       simp only [allTo, hx.2, hs, Bool.and_self])
    | (refine vb ?_
       have e : x = ax.ls.length := (by omega)
       have q : (ac == bc && (ah == bh && (aw == bw && true))) = true := (by assumption)
       simp only [Bool.and_eq_true, beq_iff_eq] at q
       unfold sameDs
       rw [← e, hx.2, decide_eq_true (show ac = bc ∧ ah = bh ∧ aw = bw ∧ ae = be ∧ ak = bk ∧ x = bx.ls.length from ⟨q.1, q.2.1, q.2.2.1, by omega, by omega, by omega⟩)]; rfl)
    | (refine vb ?_
       unfold sameDs
       rw [decide_eq_false (by omega), Bool.false_and]
       done)
    | (refine vb ?_
       have q : (ac == bc && (ah == bh && (aw == bw && true))) = false := (by assumption)
       unfold sameDs
       rw [decide_eq_false (by rintro ⟨rfl, rfl, rfl, _⟩; simp at q), Bool.false_and]
       done)
    | trace_state
/-! ### A light one -/
def lightTo (x : Dat) : Nat → Int
  | 0 => 0
  | i + 1 => IntKind.i64.wrap (lightTo x i + (((x.at i).fld 0).ints.length : Int))
def lightB (x : Dat) : Bool := allTo (fun i => decide (i < 100 ∧ lightTo x (i + 1) ≤ 3000)) x.ls.length
def lightF (xa : List AV) : Bool := match xa with
  | [.st [.st [.z c, .z h, .z w], .z e, .z k, .d x]] => lightB x
  | _ => false
theorem light_false {x : Dat} {j : Nat} (hj : j < x.ls.length) (h : ¬ (j < 100 ∧ lightTo x (j + 1) ≤ 3000)) : lightB x = false := allTo_false hj (decide_eq_false h)
theorem light22_ok : CtrOk Try.prog 12 (boolC [dsTy] lightF) := by
  obtain ⟨G, hG⟩ : ∃ G : List (FuncId × Ctr), G = [] := ⟨_, rfl⟩
  refine fn_ok (ck := false) Try.func12 rfl tt_ok (G := G) (by rw [hG]; exact trivial) mixed (by kernel_rfl) ?_
  intro xa xs h hx hp
  obtain ⟨a0, as0, x0, xs0, rfl, rfl, h0, H1⟩ := svArgs_cons h
  obtain ⟨rfl, rfl⟩ := svArgs_nil H1
  obtain ⟨dc, dh, dw, de, dk, dx, rfl, rfl⟩ := argSV_ds h0
  have sd : (-9223372036854775808 ≤ dc ∧ dc ≤ 9223372036854775807) ∧ (-9223372036854775808 ≤ dh ∧ dh ≤ 9223372036854775807) ∧ (-9223372036854775808 ≤ dw ∧ dw ≤ 9223372036854775807) ∧ (-9223372036854775808 ≤ de ∧ de ≤ 9223372036854775807) ∧ (-9223372036854775808 ≤ dk ∧ dk ≤ 9223372036854775807) ∧ ((ci dx.ls.length ≤ 9223372036854775807) ∧ Wt (.sl exTy) dx) := svf_ds (hx (.agg [.v (.int .i64 dc), .v (.int .i64 dh), .v (.int .i64 dw), .v (.int .i64 de), .v (.int .i64 dk), .imm exTy dx]) (List.mem_of_getElem? (i := 0) rfl))
  have SD := Lib.hid sd
  clear sd
  clear hx hp h h0 H1
  generalize hA : std = A
  subst hG
  generalize h_c : ci = c
  generalize h_fR : lightF = fR
  obtain ⟨T, hT⟩ : ∃ T : Nat → Int, ∀ j, T j = lightTo dx j := ⟨_, fun _ => rfl⟩
  have HT := Lib.hid hT
  clear hT
  cbv
  (repeat' (first | apply And.intro | apply BrB.mk | apply BrP.mk | intro _))
  all_goals try (refine loop_at Nat 9 (fun x => [(2, .any), (3, .v (.int .i64 (T x))), (4, .any), (5, .any), (9, .v (.int .i64 (c x)))]) (fun _ o => o) (fun x => ci x ≤ ci dx.ls.length ∧ allTo (fun i => decide (i < 100 ∧ lightTo dx (i + 1) ≤ 3000)) x = true) (fun x => dx.ls.length - x) 0 ⟨by simp [ci], rfl⟩ ?_ ?_
                 focus
                   show AS.le _ _
                   cbv
                   (repeat' (first | apply And.intro | apply BrB.mk | apply BrP.mk | intro _))
                   (all_goals (subst hA; subst h_c; subst h_fR); all_goals (have f_sd := SD.out); all_goals (try simp only [std, stdBin, stdCmp, stdUna, stdIn, ci, beq_iff_eq, bne_iff_ne, beq_eq_false_iff_ne, bne_eq_false_iff_eq, decide_eq_true_eq, decide_eq_false_iff_not, Bool.not_true, Bool.not_false, Bool.not_eq_true', Bool.not_eq_false', Bool.not_not, tn0, tn1, tn2, tn3] at *); all_goals (try omega))
                   all_goals first | rfl | (rw [HT.out]; rfl)
                   done)
  all_goals try (intro x hx; cbv; (repeat' (first | apply And.intro | apply BrB.mk | apply BrP.mk | intro _)))
  all_goals try (refine ⟨x + 1, ?_, ?_, ?_⟩)
  all_goals try (show AS.le _ _; cbv; (repeat' (first | apply And.intro | apply BrB.mk | apply BrP.mk | intro _)))
  all_goals (have t1 := HT.out)
  (all_goals (subst hA; subst h_c; subst h_fR); all_goals (have f_sd := SD.out); all_goals (try simp only [std, stdBin, stdCmp, stdUna, stdIn, ci, beq_iff_eq, bne_iff_ne, beq_eq_false_iff_ne, bne_eq_false_iff_eq, decide_eq_true_eq, decide_eq_false_iff_not, Bool.not_true, Bool.not_false, Bool.not_eq_true', Bool.not_eq_false', Bool.not_not, tn0, tn1, tn2, tn3, lightF, Int.toNat_natCast] at *); all_goals (try omega))
  all_goals first
    | exact True.intro
    | (have hb : x < 100 := (by omega); rw [w64 (by omega) (by omega)]; exact congrArg (Value.int .i64) (by omega))
    | (show Value.int .i64 (IntKind.i64.wrap (T x + _)) = Value.int .i64 (T (x + 1)); rw [t1 (x + 1), t1 x]; rfl)
    | (refine ⟨by omega, ?_⟩
       have hs : decide (x < 100 ∧ lightTo dx (x + 1) ≤ 3000) = true := decide_eq_true ⟨by omega, (by show IntKind.i64.wrap (lightTo dx x + _) ≤ 3000; rw [← t1 x]; omega)⟩
       simp only [allTo, hx.2, hs, Bool.and_self])
    | (refine vb ?_
       have hg : IntKind.i64.wrap (T x + ((((dx.at x).fld 0).ints.length : Nat) : Int)) > 3000 := (by assumption)
       exact light_false (j := x) (by omega) (by rintro ⟨_, q⟩; rw [t1 x] at hg; have q : IntKind.i64.wrap (lightTo dx x + ((((dx.at x).fld 0).ints.length : Nat) : Int)) ≤ 3000 := q; omega))
    | (refine vb ?_
       exact light_false (j := x) (by omega) (by rintro ⟨q, _⟩; omega))
    | (refine vb ?_
       have e : x = dx.ls.length := (by omega)
       unfold lightB
       rw [← e]; exact hx.2)
    | trace_state
end Go.Proofs.Ytmlfiphpcjkadaa
/- Layer 22: what is written, read. -/
namespace Go.Proofs.Ytmlfiphpcjkadaa
open Go.RowKit
set_option maxRecDepth 100000
set_option linter.unusedSimpArgs false
set_option linter.unusedVariables false
set_option maxHeartbeats 4000000
theorem byt_app {a b : List Int} (ha : Byt a) (hb : Byt b) : Byt (a ++ b) := fun i => by
  rw [getD_app]
  split
  · exact ha i
  · exact hb _
theorem byt_nil : Byt [] := fun i => by simp
theorem byt_one {v : Int} (h : 0 ≤ v ∧ v ≤ 255) : Byt [v] := fun i => by
  match i with
  | 0 => exact h
  | i + 1 => simp
theorem byt_u8 (v : Int) : Byt (bU8 v) := by
  unfold bU8
  rw [put_one]
  exact byt_one (by omega)
theorem byt_dat (D : List Int) : ∀ j, Byt (bDat D j)
  | 0 => byt_nil
  | j + 1 => byt_app (byt_dat D j) (byt_u8 _)
theorem byt_exs (x : Dat) : ∀ i, Byt (bExs x i)
  | 0 => byt_nil
  | i + 1 => byt_app (byt_app (byt_exs x i) (byt_u8 _)) (byt_dat _ _)
theorem bHead_eq {c h w e k n : Int} (hn : 0 ≤ n ∧ n ≤ 65535) : bHead c h w e k n = [112, 100, 100, 115, c % 256, h % 256, w % 256, e % 256, k % 256, n / 256, n % 256] := by
  unfold bHead b3 bU8 bU16 bMark
  rw [put_one, put_one, put_one, put_one, put_one, put_two _ hn]
  rfl
theorem byt_ds {c h w e k : Int} {x : Dat} (hn : x.ls.length ≤ 64) : Byt (bDs c h w e k x) := by
  unfold bDs
  refine byt_app ?_ (byt_exs _ _)
  rw [bHead_eq (by omega)]
  intro i
  match i with
  | 0 => show (0 : Int) ≤ 112 ∧ (112 : Int) ≤ 255; decide
  | 1 => show (0 : Int) ≤ 100 ∧ (100 : Int) ≤ 255; decide
  | 2 => show (0 : Int) ≤ 100 ∧ (100 : Int) ≤ 255; decide
  | 3 => show (0 : Int) ≤ 115 ∧ (115 : Int) ≤ 255; decide
  | 4 => show 0 ≤ c % 256 ∧ c % 256 ≤ 255; omega
  | 5 => show 0 ≤ h % 256 ∧ h % 256 ≤ 255; omega
  | 6 => show 0 ≤ w % 256 ∧ w % 256 ≤ 255; omega
  | 7 => show 0 ≤ e % 256 ∧ e % 256 ≤ 255; omega
  | 8 => show 0 ≤ k % 256 ∧ k % 256 ≤ 255; omega
  | 9 => show 0 ≤ (x.ls.length : Int) / 256 ∧ (x.ls.length : Int) / 256 ≤ 255; omega
  | 10 => show 0 ≤ (x.ls.length : Int) % 256 ∧ (x.ls.length : Int) % 256 ≤ 255; omega
  | i + 11 => simp
theorem bExs_split (x : Dat) {i : Nat} : ∀ {n : Nat}, i + 1 ≤ n → ∃ R, bExs x n = bExs x i ++ (bU8 (exLab x i) ++ (bDat (exDat x i) (exDat x i).length ++ R))
  | 0, h => by omega
  | n + 1, h => by
    by_cases e : i = n
    · subst e
      exact ⟨[], by rw [bExs]; simp only [List.append_assoc, List.append_nil]⟩
    · obtain ⟨R, hR⟩ := bExs_split x (i := i) (n := n) (by omega)
      exact ⟨R ++ (bU8 (exLab x n) ++ bDat (exDat x n) (exDat x n).length), by rw [bExs, hR]; simp only [List.append_assoc]⟩
theorem i8_back {l : List Int} (h : Fits .i8 l) : ∀ j : Nat, j ≤ l.length → i8L (bDat l j) = l.take j
  | 0, _ => by simp [bDat, i8L]
  | j + 1, hj => by
    have ih := i8_back h j (by omega)
    unfold i8L at ih ⊢
    rw [bDat, List.map_append, ih, bU8, put_one, take_getD l j (by omega)]
    congr 1
    show [IntKind.i8.wrap (l.getD j 0 % 256)] = _
    have hw : (Lit.int .i8 (l.getD j 0)).wf = true := by
      rw [List.getD_eq_getElem?_getD, List.getElem?_eq_getElem (show j < l.length by omega)]
      exact h _ (List.getElem_mem _)
    have hr := (stdIn_iff .i8 _).2 hw
    have hr : -128 ≤ l.getD j 0 ∧ l.getD j 0 ≤ 127 := hr
    rw [wrap8]
    congr 1
    omega
theorem ex_wt {x : Dat} (h : Wt (.sl exTy) x) {i : Nat} (hi : i < x.ls.length) : Fits .i8 (exDat x i) := by
  simp only [Wt] at h
  obtain ⟨ds, rfl, _, h⟩ := h
  have hi' : i < ds.length := hi
  have h1 : Wt exTy ((Dat.list ds).at i) := by
    have : (Dat.list ds).at i = ds[i] := by
      show ds.getD i (.int 0) = _
      rw [List.getD_eq_getElem?_getD, List.getElem?_eq_getElem hi']
      rfl
    rw [this]
    exact h _ (List.getElem_mem _)
  simp only [exTy, Wt, WtL] at h1
  obtain ⟨q, hq, u, us, rfl, ⟨es, rfl, _, he⟩, _⟩ := h1
  unfold exDat
  rw [hq]
  intro z hz
  have hz : z ∈ es.map Dat.z := hz
  obtain ⟨d, hd, rfl⟩ := List.mem_map.1 hz
  obtain ⟨y, rfl, hy⟩ := he d hd
  exact hy
theorem bDs_len {c h w e k : Int} {x : Dat} (hm : mayDs c h w e k x = true) : ((bDs c h w e k x).length : Int) = 11 + (x.ls.length : Int) * (1 + c * h * w) := by
  have h1 := (bExs_len hm x.ls.length (Nat.le_refl _)).1
  unfold bDs
  rw [List.length_append, bHead_eq (by have := (bDs_small hm).1; omega)]
  push_cast
  rw [h1]
  rfl
theorem write_read {c h w e k : Int} {x : Dat} (hm : mayDs c h w e k x = true) (hw : Wt (.sl exTy) x) :
    decE (bDs c h w e k x) = 0 ∧ sameDs (dV (bDs c h w e k x) 0) (dV (bDs c h w e k x) 1) (dV (bDs c h w e k x) 2) (dE (bDs c h w e k x)) (dV (bDs c h w e k x) 4) (dX' (bDs c h w e k x) (dN (bDs c h w e k x)).toNat) c h w e k x = true := by
  have hlen := bDs_len hm
  have hsm := bDs_small hm
  have hby := byt_ds (c := c) (h := h) (w := w) (e := e) (k := k) hsm.1
  have hh := hm
  unfold mayDs at hh
  rw [Bool.and_eq_true] at hh
  obtain ⟨hhd, hall⟩ := hh
  obtain ⟨g1, g2, g3, g4, g5, g6, g7⟩ := ex_hd hhd
  have hc := chw_in g1 g2 g3
  have hsplit : bDs c h w e k x = [112, 100, 100, 115, c % 256, h % 256, w % 256, e % 256, k % 256, (x.ls.length : Int) / 256, (x.ls.length : Int) % 256] ++ bExs x x.ls.length := by
    unfold bDs
    rw [bHead_eq (by omega)]
  have r4 : (bDs c h w e k x).getD 4 0 = c % 256 := by rw [hsplit]; rfl
  have r5 : (bDs c h w e k x).getD 5 0 = h % 256 := by rw [hsplit]; rfl
  have r6 : (bDs c h w e k x).getD 6 0 = w % 256 := by rw [hsplit]; rfl
  have r7 : (bDs c h w e k x).getD 7 0 = e % 256 := by rw [hsplit]; rfl
  have r8 : (bDs c h w e k x).getD 8 0 = k % 256 := by rw [hsplit]; rfl
  have r9 : (bDs c h w e k x).getD 9 0 = (x.ls.length : Int) / 256 := by rw [hsplit]; rfl
  have r10 : (bDs c h w e k x).getD 10 0 = (x.ls.length : Int) % 256 := by rw [hsplit]; rfl
  have hmk : dMark (bDs c h w e k x) = true := by
    unfold dMark
    have : std.lsub (bDs c h w e k x) 0 4 = [112, 100, 100, 115] := by rw [hsplit]; rfl
    rw [this]
    decide +kernel
  generalize hB : bDs c h w e k x = b at *
  have v0 : dV b 0 = c := by rw [dV_at hby 0]; show b.getD 4 0 = _; omega
  have v1 : dV b 1 = h := by rw [dV_at hby 1]; show b.getD 5 0 = _; omega
  have v2 : dV b 2 = w := by rw [dV_at hby 2]; show b.getD 6 0 = _; omega
  have v3 : dE b = e := by
    unfold dE
    rw [dV_at hby 3]
    show IntKind.i8.wrap (b.getD 7 0) = _
    rw [wrap8]
    omega
  have v4 : dV b 4 = k := by rw [dV_at hby 4]; show b.getD 8 0 = _; omega
  have vn : dN b = x.ls.length := by rw [dN_at hby]; omega
  have vs : dS b = c * h * w := by unfold dS; rw [v0, v1, v2]
  have hat : ∀ i, i < x.ls.length → dDat b i = exDat x i ∧ dLab b i = exLab x i := by
    intro i hi
    obtain ⟨R, hR⟩ := bExs_split x (i := i) (n := x.ls.length) (by omega)
    have hel := bExs_len hm i (by omega)
    have hxl := (bExs_len hm (i + 1) (by omega)).2 i (by omega)
    have hA : dA b i = 11 + ((bExs x i).length : Int) := by unfold dA; rw [vs, hel.1]
    rw [hR] at hsplit
    have hb1 : b = ([112, 100, 100, 115, c % 256, h % 256, w % 256, e % 256, k % 256, (x.ls.length : Int) / 256, (x.ls.length : Int) % 256] ++ bExs x i) ++ (bU8 (exLab x i) ++ (bDat (exDat x i) (exDat x i).length ++ R)) := by
      rw [hsplit]; simp only [List.append_assoc]
    have hX : (([112, 100, 100, 115, c % 256, h % 256, w % 256, e % 256, k % 256, (x.ls.length : Int) / 256, (x.ls.length : Int) % 256] ++ bExs x i : List Int).length : Int) = dA b i := by
      rw [List.length_append, hA]
      push_cast
      rfl
    generalize [112, 100, 100, 115, c % 256, h % 256, w % 256, e % 256, k % 256, (x.ls.length : Int) / 256, (x.ls.length : Int) % 256] ++ bExs x i = X at hb1 hX
    have hlab := allTo_at hall i hi
    simp only [exB, decide_eq_true_eq] at hlab
    have hl2 : 0 ≤ exLab x i ∧ exLab x i ≤ k - 1 := hlab.2.2
    refine ⟨?_, ?_⟩
    · unfold dDat
      have hb2 : b = (X ++ bU8 (exLab x i)) ++ (bDat (exDat x i) (exDat x i).length ++ R) := by rw [hb1]; simp only [List.append_assoc]
      have e1 : dA b i + 1 = ((X ++ bU8 (exLab x i)).length : Int) := by rw [List.length_append, bU8_len]; push_cast; omega
      have e2 : dS b = ((bDat (exDat x i) (exDat x i).length).length : Int) := by rw [bDat_len, hxl, vs]
      rw [e1, e2]
      rw [show std.lsub b ((X ++ bU8 (exLab x i)).length : Int) ((bDat (exDat x i) (exDat x i).length).length : Int) = bDat (exDat x i) (exDat x i).length from by
        conv => lhs; rw [hb2]
        exact take_mid]
      rw [i8_back (ex_wt hw hi) _ (Nat.le_refl _), List.take_length]
    · rw [dLab_at hby, ← hX]
      have e3 : ((X.length : Nat) : Int).toNat = X.length := by omega
      rw [e3, hb1, getD_app, if_neg (by omega), Nat.sub_self]
      unfold bU8
      rw [put_one]
      show exLab x i % 256 = exLab x i
      omega
  have hn : (dN b).toNat = x.ls.length := by rw [vn]; omega
  refine ⟨?_, ?_⟩
  · have hrun : dRun b (dN b).toNat = 0 := by
      rw [hn]
      refine dRun_all fun i hi => ?_
      obtain ⟨q1, q2⟩ := hat i hi
      unfold dStep
      rw [q1, q2, v0, v1, v2, v4]
      have hle : dA b (i + 1) ≤ (b.length : Int) := by
        unfold dA
        rw [vs, hlen]
        have : ((i + 1 : Nat) : Int) * (1 + c * h * w) ≤ (x.ls.length : Int) * (1 + c * h * w) := Int.mul_le_mul_of_nonneg_right (by omega) (by omega)
        omega
      have hex : exB c h w k (exDat x i) (exLab x i) = true := allTo_at hall i hi
      rw [if_neg (by omega), if_pos hex]
    have h11 : ¬ (b.length : Int) < 11 := by
      rw [hlen]
      have := Int.mul_nonneg (show (0 : Int) ≤ (x.ls.length : Int) by omega) (show 0 ≤ 1 + c * h * w by omega)
      omega
    rw [decEz hmk h11 (by rw [v0, v1, v2, v3, v4, vn]; exact hhd) hrun, if_pos]
    unfold dA
    rw [vs, hlen, hn]
  · unfold sameDs
    rw [hn, dX_len, v0, v1, v2, v3, v4, decide_eq_true (by exact ⟨rfl, rfl, rfl, rfl, rfl, rfl⟩), Bool.true_and]
    refine allTo_of fun i hi => ?_
    obtain ⟨q1, q2⟩ := hat i hi
    obtain ⟨y1, y2⟩ := dX_dat (b := b) hi
    unfold sameEx
    unfold exDat at y1 q1
    unfold exLab at y2 q2
    rw [y1, y2, q1, q2]
    simp
theorem same_self22 (c h w e k : Int) (x : Dat) : sameDs c h w e k x c h w e k x = true := by
  unfold sameDs
  rw [decide_eq_true (by exact ⟨rfl, rfl, rfl, rfl, rfl, rfl⟩), Bool.true_and]
  exact allTo_of fun i _ => by unfold sameEx; simp
/-- One byte less, one more, is not read. -/
theorem cut_read {b : List Int} (h : decE b = 0) (h12 : 12 ≤ b.length) : decE (std.lsub b 0 ((b.length : Int) - 1)) ≠ 0 := by
  intro h2
  have e1 : std.lsub b 0 ((b.length : Int) - 1) = b.take (b.length - 1) := by
    show List.take ((b.length : Int) - 1).toNat (List.drop 0 b) = _
    have : ((b.length : Int) - 1).toNat = b.length - 1 := by omega
    rw [this, List.drop_zero]
  rw [e1] at h2
  have := long_same h2 h fun i hi => by
    rw [List.getD_eq_getElem?_getD, List.getD_eq_getElem?_getD, List.getElem?_take, if_pos (by omega)]
  rw [List.length_take] at this
  omega
theorem more_read {b : List Int} {v : Int} (h : decE b = 0) (h12 : 12 ≤ b.length) : decE (b ++ [v]) ≠ 0 := by
  intro h2
  have := long_same h2 h fun i hi => by rw [getD_app, if_pos (by omega)]
  rw [List.length_append] at this
  simp at this
end Go.Proofs.Ytmlfiphpcjkadaa
