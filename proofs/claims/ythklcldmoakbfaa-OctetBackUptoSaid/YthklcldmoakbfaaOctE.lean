/- Layer 3: what is written. -/
import Derived.Test.YthklcldmoakbfaaOctB
namespace Go.Proofs.Ythklcldmoakbfaa
open Go.RowKit
set_option maxRecDepth 100000
set_option linter.unusedSimpArgs false
set_option linter.unusedVariables false
set_option maxHeartbeats 16000000
set_option cbv.maxSteps 10000000
def rowC (ts : List Ty) (E : TypeId) (k : IntKind) (f : List AV → List Int) : Ctr := ⟨ts, fun _ => none, fun xa => .ret (.hdl 0) [(0, .irow E k (f xa))], false⟩
def byteD (n : Int) (j : Nat) : Int := IntKind.u8.wrap (n.fdiv (2 ^ j))
def l16 (n : Int) : List Int := [byteD n 8, byteD n 0]
def l32 (n : Int) : List Int := [byteD n 24, byteD n 16, byteD n 8, byteD n 0]
def l64 (n : Int) : List Int := l32 (IntKind.u32.wrap (n.fdiv (2 ^ 32))) ++ l32 (IntKind.u32.wrap n)
def oneF (f : Int → List Int) (xa : List AV) : List Int := match xa with
  | [.z n] => f n
  | _ => []
theorem byteD0 (n : Int) : byteD n 0 = IntKind.u8.wrap n := by
  unfold byteD
  rw [Int.pow_zero, Int.fdiv_one]
theorem r16_ok : CtrOk Try.prog 25 (rowC [.int .i64] 5 .u8 (oneF l16)) := by
  obtain ⟨G, hG⟩ : ∃ G : List (FuncId × Ctr), G = [] := ⟨_, rfl⟩
  refine fn_ok (ck := true) Try.func25 rfl tt_ok (G := G) (by rw [hG]; exact trivial) mixed (by kernel_rfl) ?_
  intro xa xs h hx hp
  obtain ⟨a0, as0, x0, xs0, rfl, rfl, h0, H1⟩ := svArgs_cons h
  obtain ⟨rfl, rfl⟩ := svArgs_nil H1
  obtain ⟨n, rfl, rfl⟩ := argSV_int h0
  have sn := of_i64 (hx (.v (.int .i64 n)) (by simp))
  have SN := Lib.hid sn
  clear sn
  clear hx hp h h0 H1
  generalize hA : std = A
  subst hG
  generalize h_c : ci = c
  generalize h_fR : oneF l16 = fR
  cbv
  (repeat' (first | apply And.intro | apply BrB.mk | apply BrP.mk | intro _))
  (all_goals (subst hA; subst h_c; subst h_fR); all_goals (have f_sn := SN.out); all_goals (try simp only [std, stdBin, stdCmp, stdUna, stdIn, ci, beq_iff_eq, bne_iff_ne, beq_eq_false_iff_ne, bne_eq_false_iff_eq, decide_eq_true_eq, decide_eq_false_iff_not, Bool.not_true, Bool.not_false, Bool.not_eq_true', Bool.not_eq_false', Bool.not_not, tn0, tn1, tn2, tn3, oneF, l16] at *); all_goals (try omega))
  rw [byteD0]; rfl
theorem r32_ok : CtrOk Try.prog 27 (rowC [.int .u32] 5 .u8 (oneF l32)) := by
  obtain ⟨G, hG⟩ : ∃ G : List (FuncId × Ctr), G = [] := ⟨_, rfl⟩
  refine fn_ok (ck := true) Try.func27 rfl tt_ok (G := G) (by rw [hG]; exact trivial) mixed (by kernel_rfl) ?_
  intro xa xs h hx hp
  obtain ⟨a0, as0, x0, xs0, rfl, rfl, h0, H1⟩ := svArgs_cons h
  obtain ⟨rfl, rfl⟩ := svArgs_nil H1
  obtain ⟨n, rfl, rfl⟩ := argSV_int h0
  have sn : (Lit.int .u32 n).wf = true := (hx (.v (.int .u32 n)) (by simp))
  have SN := Lib.hid sn
  clear sn
  clear hx hp h h0 H1
  generalize hA : std = A
  subst hG
  generalize h_c : ci = c
  generalize h_fR : oneF l32 = fR
  cbv
  (repeat' (first | apply And.intro | apply BrB.mk | apply BrP.mk | intro _))
  (all_goals (subst hA; subst h_c; subst h_fR); all_goals (have f_sn := SN.out); all_goals (try simp only [std, stdBin, stdCmp, stdUna, stdIn, ci, beq_iff_eq, bne_iff_ne, beq_eq_false_iff_ne, bne_eq_false_iff_eq, decide_eq_true_eq, decide_eq_false_iff_not, Bool.not_true, Bool.not_false, Bool.not_eq_true', Bool.not_eq_false', Bool.not_not, tn0, tn1, tn2, tn3, oneF, l32] at *); all_goals (try omega))
  rw [byteD0]; rfl
theorem r64_ok : CtrOk Try.prog 29 (rowC [.int .u64] 5 .u8 (oneF l64)) := by
  obtain ⟨G, hG⟩ : ∃ G : List (FuncId × Ctr), G = [(27, rowC [.int .u32] 5 .u8 (oneF l32))] := ⟨_, rfl⟩
  refine fn_ok (ck := true) Try.func29 rfl tt_ok (G := G) (by rw [hG]; exact ⟨⟨r32_ok, by unfold FnOk; kernel_rfl⟩, trivial⟩) mixed (by kernel_rfl) ?_
  intro xa xs h hx hp
  obtain ⟨a0, as0, x0, xs0, rfl, rfl, h0, H1⟩ := svArgs_cons h
  obtain ⟨rfl, rfl⟩ := svArgs_nil H1
  obtain ⟨n, rfl, rfl⟩ := argSV_int h0
  have sn : (Lit.int .u64 n).wf = true := (hx (.v (.int .u64 n)) (by simp))
  have SN := Lib.hid sn
  clear sn
  clear hx hp h h0 H1
  generalize hA : std = A
  subst hG
  generalize h_c : ci = c
  generalize h_fR : oneF l64 = fR
  generalize h_f3 : oneF l32 = f3
  cbv
  (repeat' (first | apply And.intro | apply BrB.mk | apply BrP.mk | intro _))
  (all_goals (subst hA; subst h_c; subst h_fR; subst h_f3); all_goals (have f_sn := SN.out); all_goals (try simp only [std, stdBin, stdCmp, stdUna, stdIn, ci, beq_iff_eq, bne_iff_ne, beq_eq_false_iff_ne, bne_eq_false_iff_eq, decide_eq_true_eq, decide_eq_false_iff_not, Bool.not_true, Bool.not_false, Bool.not_eq_true', Bool.not_eq_false', Bool.not_not, tn0, tn1, tn2, tn3, oneF, l64] at *); all_goals (try omega))
  all_goals first | (show ((4 : Int) + 4) * 1 ≤ 140737488355328 ∧ (4 : Int) + 4 ≤ 281474976710656; decide) | rfl
theorem wrap_u8 (z : Int) : IntKind.u8.wrap z = z % 256 := by
  simp [IntKind.wrap, IntKind.bits, IntKind.signed]
theorem wrap_u32 (z : Int) : IntKind.u32.wrap z = z % 4294967296 := by
  simp [IntKind.wrap, IntKind.bits, IntKind.signed]
theorem wrap_u64 (z : Int) : IntKind.u64.wrap z = z % 18446744073709551616 := by
  simp [IntKind.wrap, IntKind.bits, IntKind.signed]
theorem fdiv_pow (z : Int) (j : Nat) : z.fdiv (2 ^ j) = z / 2 ^ j := Int.fdiv_eq_ediv_of_nonneg _ (Int.le_of_lt (Int.pow_pos (by decide)))
theorem byte_at (n s : Int) (j : Nat) (h : min s.toNat 64 = j) : byteAt n s = byteD n j := by
  unfold byteAt byteD
  rw [show IntKind.u64.bits = 64 from rfl, h]
theorem put1 (x : Int) : putK (IntKind.u64.wrap x) 1 1 = [byteD x 0] := by
  rw [putK, putK, byte_at _ _ 0 (by decide), List.nil_append, byteD0, byteD0, wrap_u8, wrap_u8, wrap_u64]
  congr 1; omega
theorem put2 (x : Int) : putK (IntKind.u64.wrap x) 2 2 = l16 x := by
  rw [putK, putK, putK, byte_at _ _ 8 (by decide), byte_at _ _ 0 (by decide)]
  simp only [List.nil_append, List.cons_append, l16, byteD, wrap_u8, wrap_u64, fdiv_pow]
  congr 1; omega
  congr 1; omega
theorem put4 (x : Int) : putK x 4 4 = l32 x := by
  rw [putK, putK, putK, putK, putK, byte_at _ _ 24 (by decide), byte_at _ _ 16 (by decide), byte_at _ _ 8 (by decide), byte_at _ _ 0 (by decide)]
  rfl
theorem put8 (x : Int) : putK x 8 8 = l64 x := by
  rw [putK, putK, putK, putK, putK, putK, putK, putK, putK, byte_at _ _ 56 (by decide), byte_at _ _ 48 (by decide), byte_at _ _ 40 (by decide), byte_at _ _ 32 (by decide), byte_at _ _ 24 (by decide), byte_at _ _ 16 (by decide), byte_at _ _ 8 (by decide), byte_at _ _ 0 (by decide)]
  simp only [List.nil_append, List.cons_append, l64, l32, byteD, wrap_u8, wrap_u32, fdiv_pow]
  congr 1; omega
  congr 1; omega
  congr 1; omega
  congr 1; omega
  congr 1; omega
  congr 1; omega
  congr 1; omega
  congr 1; omega
end Go.Proofs.Ythklcldmoakbfaa
