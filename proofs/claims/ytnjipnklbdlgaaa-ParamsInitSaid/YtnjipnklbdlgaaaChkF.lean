/- Layer 16: nets that are let, a net whose sums are too long. -/
import Derived.Test.YtnjipnklbdlgaaaChkE
namespace Go.Proofs.Ytnjipnklbdlgaaa
open Go.RowKit
set_option maxRecDepth 1000000
set_option linter.unusedSimpArgs false
set_option linter.unusedVariables false
set_option maxHeartbeats 16000000
set_option cbv.maxSteps 10000000
abbrev lyr (k o w s p f : Int) : Dat := .agg [.int k, .int o, .int w, .int s, .int p, .int f, .bool false]
def lenetX (C : Int) : Dat := .list [lyr 2 4 5 1 0 0, lyr 5 0 0 0 0 0, lyr 3 0 2 2 0 0, lyr 2 8 3 1 0 0, lyr 5 0 0 0 0 0, lyr 3 0 2 2 0 0, lyr 6 0 0 0 0 0, lyr 1 20 0 0 0 0, lyr 5 0 0 0 0 0, lyr 1 C 0 0 0 0]
def vggX (C : Int) : Dat := .list [lyr 2 8 3 1 1 0, lyr 5 0 0 0 0 0, lyr 2 8 3 1 1 0, lyr 7 0 0 0 0 1, lyr 3 0 2 2 0 0, lyr 4 0 2 2 0 0, lyr 6 0 0 0 0 0, lyr 1 C 0 0 0 0]
def longX (W C : Int) : Dat := .list [lyr 6 0 0 0 0 0, lyr 1 W 0 0 0 0, lyr 1 C 0 0 0 0]
def sameP (a b : Int × Int) : Bool := decide (a.1 = b.1) && decide (a.2 = b.2)
theorem sameP_eq {a b : Int × Int} (h : sameP a b = true) : a = b := by
  unfold sameP at h
  rw [Bool.and_eq_true] at h
  exact Prod.ext (of_decide_eq_true h.1) (of_decide_eq_true h.2)
theorem allTo_get {g : Nat → Bool} : ∀ {n : Nat}, allTo g n = true → ∀ i, i < n → g i = true
  | 0, _, i, hi => by omega
  | n + 1, h, i, hi => by
    simp only [allTo, Bool.and_eq_true] at h
    by_cases e : i = n
    · subst e; first | exact h.2 | exact h.1
    · first | exact allTo_get h.1 i (by omega) | exact allTo_get h.2 i (by omega)
theorem wit_lenet : allTo (fun i => allTo (fun j => sameP (netR 1 16 16 (lenetX (Int.ofNat (2 + i))) (Int.ofNat (2 + i)) (Int.ofNat (1 + j))) (0, 0)) 2) 9 = true := by kernel_rfl
theorem wit_vgg : allTo (fun i => allTo (fun j => sameP (netR 3 8 8 (vggX (Int.ofNat (2 + i))) (Int.ofNat (2 + i)) (Int.ofNat (1 + j))) (0, 0)) 2) 9 = true := by kernel_rfl
theorem wit_long : allTo (fun q => allTo (fun i => allTo (fun j => sameP (netR 1 1 2 (longX (Int.ofNat (960 + q)) (Int.ofNat (2 + i))) (Int.ofNat (2 + i)) (Int.ofNat (1 + j))) (2, 3)) 2) 9) 60 = true := by kernel_rfl
theorem lenet_ok {C B : Int} (hC : 2 ≤ C ∧ C ≤ 10) (hB : 1 ≤ B ∧ B ≤ 2) : netR 1 16 16 (lenetX C) C B = (0, 0) := by
  have h := sameP_eq (allTo_get (allTo_get wit_lenet (C - 2).toNat (by omega)) (B - 1).toNat (by omega))
  rwa [show Int.ofNat (2 + (C - 2).toNat) = C by simp; omega, show Int.ofNat (1 + (B - 1).toNat) = B by simp; omega] at h
theorem vgg_ok {C B : Int} (hC : 2 ≤ C ∧ C ≤ 10) (hB : 1 ≤ B ∧ B ≤ 2) : netR 3 8 8 (vggX C) C B = (0, 0) := by
  have h := sameP_eq (allTo_get (allTo_get wit_vgg (C - 2).toNat (by omega)) (B - 1).toNat (by omega))
  rwa [show Int.ofNat (2 + (C - 2).toNat) = C by simp; omega, show Int.ofNat (1 + (B - 1).toNat) = B by simp; omega] at h
theorem longn_ok {W C B : Int} (hW : 960 ≤ W ∧ W ≤ 1019) (hC : 2 ≤ C ∧ C ≤ 10) (hB : 1 ≤ B ∧ B ≤ 2) : netR 1 1 2 (longX W C) C B = (2, 3) := by
  have h := sameP_eq (allTo_get (allTo_get (allTo_get wit_long (W - 960).toNat (by omega)) (C - 2).toNat (by omega)) (B - 1).toNat (by omega))
  rwa [show Int.ofNat (960 + (W - 960).toNat) = W by simp; omega, show Int.ofNat (2 + (C - 2).toNat) = C by simp; omega, show Int.ofNat (1 + (B - 1).toNat) = B by simp; omega] at h
theorem mod_in (z : Int) (m : Int) (hm : 1 ≤ m ∧ m ≤ 1000) : 0 ≤ IntKind.i64.wrap ((IntKind.u64.wrap z).tmod m) ∧ IntKind.i64.wrap ((IntKind.u64.wrap z).tmod m) < m := by
  have h0 : 0 ≤ IntKind.u64.wrap z := by
    rw [IntKind.wrap_u64]; omega
  have h1 := Int.tmod_lt_of_pos (IntKind.u64.wrap z) (show (0 : Int) < m by omega)
  have h2 := Int.tmod_nonneg m h0
  rw [w64 (by omega) (by omega)]
  omega
theorem wit_ok : CtrOk Try.prog 5 (yes6 [.int .i64, .int .i64, .int .i64] (fun _ => True)) := by
  obtain ⟨G, hG⟩ : ∃ G : List (FuncId × Ctr), G = [(15, twoC [mdlTy, .int .i64, .int .i64] netN netF), (11, yes6 [] (fun _ => True))] := ⟨_, rfl⟩
  refine fn_ok (ck := true) Try.func5 rfl tt_ok (G := G) (by rw [hG]; exact ⟨⟨net_ok, by unfold FnOk; kernel_rfl⟩, ⟨awake16_ok, by unfold FnOk; kernel_rfl⟩, trivial⟩) mixed (by kernel_rfl) ?_
  intro xa xs h hx hp
  obtain ⟨a0, as0, x0, xs0, rfl, rfl, h0, H1⟩ := svArgs_cons h
  obtain ⟨a1, as1, x1, xs1, rfl, rfl, h1, H2⟩ := svArgs_cons H1
  obtain ⟨a2, as2, x2, xs2, rfl, rfl, h2, H3⟩ := svArgs_cons H2
  obtain ⟨rfl, rfl⟩ := svArgs_nil H3
  obtain ⟨n, rfl, rfl⟩ := argSV_int h0
  obtain ⟨b, rfl, rfl⟩ := argSV_int h1
  obtain ⟨v, rfl, rfl⟩ := argSV_int h2
  have sn := of_i64 (hx (.v (.int .i64 n)) (by simp))
  have sb := of_i64 (hx (.v (.int .i64 b)) (by simp))
  have sv := of_i64 (hx (.v (.int .i64 v)) (by simp))
  have SN := Lib.hid sn
  clear sn
  have SB := Lib.hid sb
  clear sb
  have SV := Lib.hid sv
  clear sv
  clear hx hp h h0 H1 h1 H2 h2 H3
  generalize hA : std = A
  subst hG
  generalize h_c : ci = c
  generalize h_gN : netN = gN
  generalize h_gE : netF = gE
  cbv
  (repeat' (first | apply And.intro | apply BrB.mk | apply BrP.mk | intro _))
  (all_goals (subst hA; subst h_c; subst h_gN; subst h_gE); all_goals (have f_sn := SN.out; have f_sb := SB.out; have f_sv := SV.out); all_goals (try simp only [std, stdBin, stdCmp, stdUna, stdIn, ci, beq_iff_eq, bne_iff_ne, beq_eq_false_iff_ne, bne_eq_false_iff_eq, decide_eq_true_eq, decide_eq_false_iff_not, Bool.not_true, Bool.not_false, Bool.not_eq_true', Bool.not_eq_false', Bool.not_not, tn0, tn1, tn2, tn3, netN, netF] at *); all_goals (try omega))
  all_goals (have q1 := mod_in n 9 (by decide); have q2 := mod_in b 2 (by decide); have q3 := mod_in v 60 (by decide))
  all_goals (generalize hC : IntKind.i64.wrap ((IntKind.u64.wrap n).tmod 9) = C at *)
  all_goals (generalize hB : IntKind.i64.wrap ((IntKind.u64.wrap b).tmod 2) = B at *)
  all_goals (generalize hW : IntKind.i64.wrap ((IntKind.u64.wrap v).tmod 60) = W at *)
  all_goals (try omega)
  all_goals (have k1 := lenet_ok (C := 2 + C) (B := 1 + B) (by omega) (by omega); have k2 := vgg_ok (C := 2 + C) (B := 1 + B) (by omega) (by omega); have k3 := longn_ok (W := 960 + W) (C := 2 + C) (B := 1 + B) (by omega) (by omega) (by omega))
  all_goals (simp only [lenetX, vggX, longX, lyr] at k1 k2 k3)
  all_goals (exfalso; simp only [k1, k2, k3] at *; first | omega | contradiction | trace_state)
end Go.Proofs.Ytnjipnklbdlgaaa
