/- Results without a branch; rows that are filled place by place. -/
import Derived.Test.YtmlfiphpcjkadaaMayAll
namespace Go.Proofs.Ytmlfiphpcjkadaa
open Go.RowKit Go.ChangeShapes Go.WideShapes Go.Deep
set_option maxRecDepth 100000
set_option linter.unusedSimpArgs false
set_option linter.unusedVariables false
set_option maxHeartbeats 8000000
/-- What comes, or nothing. -/
def rU (err : List AV → Int) (r : List AV → Tn) (xa : List AV) : Tn := if err xa = 0 then r xa else ⟨[], 0, []⟩
/-- A tensor, or sums, and an error: nothing, where there is one. -/
def resU (ts : List Ty) (k : IntKind) (tI tK : TypeId) (err : List AV → Int) (r : List AV → Tn) : Ctr :=
  ⟨ts, fun _ => none, fun xa => .ret (.tup [.agg [.hdl 0, .v (.int .i64 (r xa).exp), .hdl 1], .v (.int .i64 (err xa))]) [(0, .irow tI .i64 (r xa).dims), (2, .irow tK k (r xa).data)], false⟩
theorem resU_of {P : Program} {f : FuncId} {ts : List Ty} {k : IntKind} {tI tK : TypeId} {err : List AV → Int} {r : List AV → Tn} (h : CtrOk P f (resC ts k tI tK err r)) : CtrOk P f (resU ts k tI tK err (rU err r)) := by
  intro xa w g vs ha hl hp
  refine (h xa w g vs ha hl (fun p hp => by cases hp)).mono fun e w' ⟨v, he, hg⟩ => ⟨v, he, ?_⟩
  by_cases h0 : err xa = 0
  · simp only [resC, resU, Out.pick, h0, if_true, rU] at hg ⊢
    exact hg
  · simp only [resC, resU, Out.pick, h0, if_false, rU] at hg ⊢
    have hs := hg.sv
    simp only [SV.Is, LsIs] at hs
    obtain ⟨cs, rfl, u1, us, h1, ⟨ds, rfl, a1, as1, g1, ⟨rfl, _⟩, a2, as2, rfl, ⟨rfl, w2⟩, a3, as3, rfl, ⟨rfl, _⟩, rfl⟩, u2, us2, rfl, ⟨rfl, w1⟩, rfl⟩ := hs
    obtain ⟨cs, rfl⟩ : ∃ l : List Value, cs = l.toArray := ⟨cs.toList, by simp⟩
    obtain ⟨ds, rfl⟩ : ∃ l : List Value, ds = l.toArray := ⟨ds.toList, by simp⟩
    simp only at h1 g1
    subst g1
    subst h1
    refine ⟨hg.below, ?_, ?_, ?_⟩
    · simp only [SV.Is, LsIs]
      exact ⟨_, rfl, _, _, rfl, ⟨_, rfl, _, _, rfl, rfl, _, _, rfl, ⟨rfl, w2⟩, _, _, rfl, rfl, rfl⟩, _, _, rfl, ⟨rfl, w1⟩, rfl⟩
    · intro i o hi
      match i, hi with
      | 0, hi => cases hi; exact ⟨_, rfl, ⟨rfl, rfl⟩, OwnM.nil _ _ _ _, fun x hx => by cases hx⟩
      | 1, hi => cases hi; exact ⟨_, rfl, ⟨rfl, rfl⟩, OwnM.nil _ _ _ _, fun x hx => by cases hx⟩
      | i + 2, hi => simp at hi
    · intro i j o p a b c hi hj hne ha hb hc
      match i, hi with
      | 0, hi => cases hi; cases ha; cases hc
      | 1, hi => cases hi; cases ha; cases hc
      | i + 2, hi => simp at hi
def mixL (lo hi : Nat → Int) (N c : Nat) : List Int := (List.range N).map fun j => if j < c then hi j else lo j
theorem mixL_len (lo hi : Nat → Int) (N c : Nat) : (mixL lo hi N c).length = N := by simp [mixL]
theorem mixL_get (lo hi : Nat → Int) {N c j : Nat} (h : j < N) : (mixL lo hi N c).getD j 0 = if j < c then hi j else lo j := by
  unfold mixL
  rw [List.getD_eq_getElem?_getD, List.getElem?_map, List.getElem?_range h]
  rfl
theorem mixL_set (lo hi : Nat → Int) {N c : Nat} (h : c < N) : (mixL lo hi N c).set c (hi c) = mixL lo hi N (c + 1) := by
  apply List.ext_getElem?
  intro j
  unfold mixL
  rw [List.getElem?_set, List.getElem?_map, List.getElem?_map]
  by_cases hj : j < N
  · rw [List.getElem?_range hj]
    simp only [Option.map_some, List.length_map, List.length_range]
    by_cases e : c = j
    · subst e; rw [if_pos rfl, if_pos h, if_pos (by omega)]
    · rw [if_neg e]
      by_cases h2 : j < c
      · rw [if_pos h2, if_pos (by omega)]
      · rw [if_neg h2, if_neg (by omega)]
  · rw [List.getElem?_eq_none (by simp; omega)]
    simp only [Option.map_none, List.length_map, List.length_range]
    by_cases e : c = j
    · exfalso; omega
    · rw [if_neg e]
theorem mixL_eq (lo hi lo' hi' : Nat → Int) (N c c' : Nat) (h : ∀ j, j < N → (if j < c then hi j else lo j) = if j < c' then hi' j else lo' j) : mixL lo hi N c = mixL lo' hi' N c' := by
  unfold mixL
  apply List.map_congr_left
  intro j hj
  exact h j (List.mem_range.1 hj)
theorem mixL_all (lo hi : Nat → Int) (N : Nat) : mixL lo hi N N = (List.range N).map hi := by
  unfold mixL
  apply List.map_congr_left
  intro j hj
  rw [if_pos (List.mem_range.1 hj)]
theorem mixL_none (lo hi : Nat → Int) (N : Nat) : mixL lo hi N 0 = (List.range N).map lo := by
  unfold mixL
  apply List.map_congr_left
  intro j hj
  rw [if_neg (Nat.not_lt_zero _)]
theorem mixL_nil (hi : Nat → Int) (N : Nat) : mixL (fun _ => 0) hi N 0 = List.replicate N 0 := by
  rw [mixL_none]
  rw [List.map_const', List.length_range]
theorem mixL_store {lo hi : Nat → Int} {N c : Nat} {v : Int} (h : c < N) (hv : v = hi c) : (mixL lo hi N c).set c v = mixL lo hi N (c + 1) := by rw [hv]; exact mixL_set lo hi h
theorem mixL_skip {lo hi : Nat → Int} {N c : Nat} (h : hi c = lo c) : mixL lo hi N c = mixL lo hi N (c + 1) := by
  refine mixL_eq _ _ _ _ _ _ _ fun j _ => ?_
  by_cases h1 : j < c
  · rw [if_pos h1, if_pos (by omega)]
  · by_cases h2 : j = c
    · subst h2; rw [if_neg h1, if_pos (by omega), h]
    · rw [if_neg h1, if_neg (by omega)]
def t1 {α : Type} (f : Tn → α) (d : α) (xa : List AV) : α := match xa with
  | [.st [.l D1, .z e1, .l L1]] => f ⟨D1, e1, L1⟩
  | _ => d
def t2 {α : Type} (f : Tn → Tn → α) (d : α) (xa : List AV) : α := match xa with
  | [.st [.l D1, .z e1, .l L1], .st [.l D2, .z e2, .l L2]] => f ⟨D1, e1, L1⟩ ⟨D2, e2, L2⟩
  | _ => d
def t3 {α : Type} (f : Tn → Tn → Tn → α) (d : α) (xa : List AV) : α := match xa with
  | [.st [.l D1, .z e1, .l L1], .st [.l D2, .z e2, .l L2], .st [.l D3, .z e3, .l L3]] => f ⟨D1, e1, L1⟩ ⟨D2, e2, L2⟩ ⟨D3, e3, L3⟩
  | _ => d
theorem may_exp {t : Tn} (h : mayB t = true) : -64 ≤ t.exp ∧ t.exp ≤ 64 := by
  obtain ⟨D, e, L⟩ := t
  exact ((mayB_eq D L e).1 h).2.2.1
theorem exps2 {x w : Tn} (h : (mayB x && mayB w) = true) : (-64 ≤ x.exp ∧ x.exp ≤ 64) ∧ (-64 ≤ w.exp ∧ w.exp ≤ 64) := by
  simp only [Bool.and_eq_true] at h
  exact ⟨may_exp h.1, may_exp h.2⟩
theorem idx_lt {i n k j : Nat} (hi : i < n) (hj : j < k) : i * k + j < n * k := by
  have := Nat.mul_le_mul_right k (show i + 1 ≤ n from hi)
  rw [Nat.succ_mul] at this
  omega
theorem idx_div {i m o : Nat} (ho : o < m) : (i * m + o) / m = i ∧ (i * m + o) % m = o := by
  constructor
  · rw [Nat.mul_comm, Nat.mul_add_div (by omega), Nat.div_eq_of_lt ho, Nat.add_zero]
  · rw [Nat.mul_comm, Nat.mul_add_mod, Nat.mod_eq_of_lt ho]
def yes (_ : List AV) : Bool := true
theorem wrap64u (z : Int) : IntKind.u64.wrap z = z % 18446744073709551616 := by simp [IntKind.wrap, IntKind.bits, IntKind.signed]
/-- A number taken modulo a small one, as they write it. -/
theorem modU (k m : Int) (h0 : 0 < m) (h1 : m ≤ 1000000) : 0 ≤ IntKind.i64.wrap ((IntKind.u64.wrap k).tmod m) ∧ IntKind.i64.wrap ((IntKind.u64.wrap k).tmod m) < m := by
  rw [wrap64u]
  have h2 : 0 ≤ k % 18446744073709551616 := Int.emod_nonneg _ (by decide)
  rw [Int.tmod_eq_emod_of_nonneg h2]
  have h3 := Int.emod_nonneg (k % 18446744073709551616) (show m ≠ 0 by omega)
  have h4 := Int.emod_lt_of_pos (k % 18446744073709551616) h0
  rw [w64 (by omega) (by omega)]
  exact ⟨h3, h4⟩
theorem alignS (v a b : Int) (h : -128 ≤ v ∧ v ≤ 127) : -1048576 ≤ alignI v a b ∧ alignI v a b ≤ 1048576 := by
  unfold alignI
  split
  · unfold downI
    have e : numb v = v := by unfold numb cl; omega
    rw [e]
    have h1 : (0 : Int) < 2 ^ shN (-gap a b) := Int.pow_pos (by decide)
    generalize (2 : Int) ^ shN (-gap a b) = p at h1 ⊢
    constructor
    · refine Int.le_ediv_of_mul_le h1 ?_
      have := Int.mul_le_mul_of_nonneg_left (show 1 ≤ p by omega) (show (0 : Int) ≤ 1048576 by omega)
      omega
    · refine Int.ediv_le_of_le_mul h1 ?_
      have := Int.mul_le_mul_of_nonneg_left (show 1 ≤ p by omega) (show (0 : Int) ≤ 1048576 by omega)
      omega
  · exact cut20_in _
end Go.Proofs.Ytmlfiphpcjkadaa
