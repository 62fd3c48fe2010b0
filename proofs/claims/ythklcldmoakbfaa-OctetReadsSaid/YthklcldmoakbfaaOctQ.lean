/- Layer 3: what is read. -/
import Derived.Test.YthklcldmoakbfaaOctN
namespace Go.Proofs.Ythklcldmoakbfaa
open Go.RowKit
set_option maxRecDepth 20000
set_option linter.unusedSimpArgs false
set_option linter.unusedVariables false
set_option maxHeartbeats 16000000
set_option cbv.maxSteps 10000000
/-- How far two readers are: where, how many, the error. -/
structure RsP where
  k : Nat
  a : Int
  n : Int
  e : Int
def RsOk (b : List Int) (m : Nat) (s : RsP) : Prop := s.k ≤ m ∧ 0 ≤ s.a ∧ 0 ≤ s.n ∧ s.a + s.n ≤ b.length ∧ (s.e = 0 ∨ s.e = 4 ∧ s.n = 0)
def dD (b : List Int) (a n : Int) : List Int := std.lsub b a n
theorem dD_len {b : List Int} {a n : Int} (h1 : 0 ≤ a) (h2 : 0 ≤ n) (h3 : a + n ≤ b.length) : ((dD b a n).length : Int) = n := by
  show ((List.take n.toNat (List.drop a.toNat b)).length : Int) = n
  simp only [List.length_take, List.length_drop]
  omega
theorem dD_sub {b : List Int} {a n x y : Int} (h1 : 0 ≤ a) (h3 : 0 ≤ x) (h4 : 0 ≤ y) (h5 : x + y ≤ n) : std.lsub (dD b a n) x y = dD b (a + x) y := by
  show List.take y.toNat (List.drop x.toNat (List.take n.toNat (List.drop a.toNat b))) = List.take y.toNat (List.drop (a + x).toNat b)
  rw [List.drop_take, List.take_take, List.drop_drop]
  have e1 : min y.toNat (n.toNat - x.toNat) = y.toNat := by omega
  have e2 : a.toNat + x.toNat = (a + x).toNat := by omega
  rw [e1, e2]
theorem dD_nil {b : List Int} {a n : Int} (h : n ≤ 0) : dD b a n = [] := by
  show List.take n.toNat (List.drop a.toNat b) = []
  have : n.toNat = 0 := by omega
  rw [this, List.take_zero]
theorem rd_all {b : List Int} {m k : Nat} {a n e wd : Int} (h : RsOk b m ⟨k, a, n, e⟩) (hk : k < m) (hw : 0 ≤ wd) : rdV b a n e wd = rmV (dD b a n) e wd ∧ rdN n e wd = ((rmL (dD b a n) e wd).length : Int) ∧ rdE n e wd = rmE (dD b a n) e wd ∧ rmL (dD b a n) e wd = dD b (rdA a n e wd) (rdN n e wd) ∧ RsOk b m ⟨k + 1, rdA a n e wd, rdN n e wd, rdE n e wd⟩ := by
  obtain ⟨_, h1, h2, h3, h4⟩ := h
  have h1 : 0 ≤ a := h1
  have h2 : 0 ≤ n := h2
  have h3 : a + n ≤ (b.length : Int) := h3
  have h4 : e = 0 ∨ e = 4 ∧ n = 0 := h4
  have hl := dD_len h1 h2 h3
  have hm : mx0 wd = wd := by unfold mx0; split <;> omega
  unfold rdV rmV rmL rmE rdN rdE rdA
  rw [hm, hl]
  by_cases c1 : e = 0
  · by_cases c2 : wd ≤ n
    · simp only [if_pos (show e = 0 ∧ wd ≤ n from ⟨c1, c2⟩), if_pos c1, if_pos c2]
      rw [dD_sub h1 hw (by omega) (by omega)]
      refine ⟨?_, (dD_len (by omega) (by omega) (by omega)).symm, (by first | rfl | exact True.intro), (by first | rfl | exact True.intro), ?_⟩
      · refine gF_congr _ fun i hi => ?_
        show _ = (List.take n.toNat (List.drop a.toNat b)).getD (0 + (i : Int)).toNat 0
        simp only [List.getD_eq_getElem?_getD]
        rw [List.getElem?_take, if_pos (by omega), List.getElem?_drop]
        congr 2
        omega
      · exact ⟨hk, (by show 0 ≤ a + wd; omega), (by show 0 ≤ n - wd; omega), (by show a + wd + (n - wd) ≤ (b.length : Int); omega), .inl rfl⟩
    · have c3 : ¬ (e = 0 ∧ wd ≤ n) := fun h => c2 h.2
      simp only [if_neg c3, if_pos c1, if_neg c2]
      refine ⟨(by first | rfl | exact True.intro), (by first | rfl | exact True.intro), (by first | rfl | exact True.intro), (dD_nil (by omega)).symm, ?_⟩
      exact ⟨hk, Int.le_refl _, Int.le_refl _, (by show (0 : Int) + 0 ≤ (b.length : Int); omega), .inr ⟨rfl, rfl⟩⟩
  · have c3 : ¬ (e = 0 ∧ wd ≤ n) := fun h => c1 h.1
    simp only [if_neg c3, if_neg c1]
    have h5 : n = 0 := by omega
    refine ⟨(by first | rfl | exact True.intro), (by rw [h5]; rfl), (by omega), (dD_nil (by omega)).symm, ?_⟩
    exact ⟨hk, h1, h2, h3, h4⟩
theorem rw_all {b : List Int} {m k : Nat} {a n e wd : Int} (h : RsOk b m ⟨k, a, n, e⟩) (hk : k < m) : rwL b a n e wd = rmR (dD b a n) e wd ∧ rwN n e wd = ((rmL (dD b a n) e wd).length : Int) ∧ rwE n e wd = rmE (dD b a n) e wd ∧ rmL (dD b a n) e wd = dD b (rwA a n e wd) (rwN n e wd) ∧ RsOk b m ⟨k + 1, rwA a n e wd, rwN n e wd, rwE n e wd⟩ := by
  by_cases hw : 0 ≤ wd
  · obtain ⟨_, q2, q3, q4, q5⟩ := rd_all h hk hw
    unfold rwN rwE rwA
    rw [if_pos hw, if_pos hw, if_pos hw]
    refine ⟨?_, q2, q3, q4, q5⟩
    obtain ⟨_, h1, h2, h3, h4⟩ := h
    have h1 : 0 ≤ a := h1
    have h2 : 0 ≤ n := h2
    have h3 : a + n ≤ (b.length : Int) := h3
    have hl := dD_len h1 h2 h3
    have hm : mx0 wd = wd := by unfold mx0; split <;> omega
    unfold rwL rmR
    rw [hm, hl]
    by_cases c1 : e = 0 ∧ wd ≤ n
    · rw [if_pos ⟨hw, c1⟩, if_pos c1, dD_sub h1 (Int.le_refl _) hw (by omega)]
      show dD b a wd = _
      rw [Int.add_zero]
    · rw [if_neg (fun h => c1 h.2), if_neg c1]
  · obtain ⟨_, q2, q3, q4, q5⟩ := rd_all (wd := 0) h hk (Int.le_refl _)
    have hm : mx0 wd = 0 := by unfold mx0; split <;> omega
    have hm0 : mx0 0 = 0 := rfl
    have z1 : rmL (dD b a n) e wd = rmL (dD b a n) e 0 := by unfold rmL; rw [hm, hm0]
    have z2 : rmE (dD b a n) e wd = rmE (dD b a n) e 0 := by unfold rmE; rw [hm, hm0]
    rw [z1, z2]
    unfold rwN rwE rwA
    rw [if_neg hw, if_neg hw, if_neg hw]
    obtain ⟨hh, h1, h2, h3, h4⟩ := h
    have h1 : 0 ≤ a := h1
    have h2 : 0 ≤ n := h2
    have h4 : e = 0 ∨ e = 4 ∧ n = 0 := h4
    have y1 : rdN n e 0 = n := by unfold rdN; split <;> (try split) <;> omega
    have y2 : rdE n e 0 = e := by unfold rdE; split <;> (try split) <;> omega
    have y3 : rdA a n e 0 = a := by unfold rdA; split <;> (try split) <;> omega
    rw [y1] at q2
    rw [y2] at q3
    rw [y1, y3] at q4
    refine ⟨?_, q2, q3, q4, ⟨hk, h1, h2, h3, h4⟩⟩
    unfold rwL rmR
    rw [if_neg (fun h => hw h.1), hm]
    split <;> rfl
theorem mod40_in (z : Int) : -39 ≤ IntKind.i64.wrap (z.tmod 40) ∧ IntKind.i64.wrap (z.tmod 40) ≤ 39 := by
  have h1 := Int.tmod_lt_of_pos z (show (0 : Int) < 40 by decide)
  have h2 := Int.lt_tmod_of_pos z (show (0 : Int) < 40 by decide)
  rw [w64 (by omega) (by omega)]
  omega
theorem reads_ok : CtrOk Try.prog 4 (yesP [.sl (.int .u8), .sl callTy] (fun xa => ∀ x ∈ xa.head?, lenP 1 [x])) := by
  obtain ⟨G, hG⟩ : ∃ G : List (FuncId × Ctr), G = [(32, rowP [.sl (.int .u8)] 5 .u8 (lenP 1) sameL), (8, yesP [] (fun _ => True))] := ⟨_, rfl⟩
  refine fn_inlB (ck := false) [(9, mrun (nrMt) (fun p => smL p.l) (nrX) (nrOs) []), (33, mrun (rdMt) (fun p => pw8 p.wd) (rdX) (rdOs) []), (18, mrun (rdMt) (fun p => smI p.n) (rwX) (rwOs) []), (19, mrun (rmMt) (fun p => smL p.l) (rmX) (rmOs) []), (34, mrun (rmMt) (fun p => pw8 p.wd ∧ smL p.l) (rmXN) (rmOsN) [])] (iok_cons (RunOk.up new_mth) (iok_cons (RunOk.up get_mth) (iok_cons (RunOk.up raw_mth) (iok_cons (RunOk.up rmraw_mth) (iok_cons (RunOk.up num_mth) iok_nil))))) [(10, Try.f10), (12, Try.f12), (14, Try.f14), (16, Try.f16), (20, Try.f20), (21, Try.f21), (11, Try.f11), (13, Try.f13), (15, Try.f15), (17, Try.f17), (22, Try.f22)] ⟨⟨Try.func10, by unfold FnOk; kernel_rfl, by kernel_rfl⟩, ⟨Try.func12, by unfold FnOk; kernel_rfl, by kernel_rfl⟩, ⟨Try.func14, by unfold FnOk; kernel_rfl, by kernel_rfl⟩, ⟨Try.func16, by unfold FnOk; kernel_rfl, by kernel_rfl⟩, ⟨Try.func20, by unfold FnOk; kernel_rfl, by kernel_rfl⟩, ⟨Try.func21, by unfold FnOk; kernel_rfl, by kernel_rfl⟩, ⟨Try.func11, by unfold FnOk; kernel_rfl, by kernel_rfl⟩, ⟨Try.func13, by unfold FnOk; kernel_rfl, by kernel_rfl⟩, ⟨Try.func15, by unfold FnOk; kernel_rfl, by kernel_rfl⟩, ⟨Try.func17, by unfold FnOk; kernel_rfl, by kernel_rfl⟩, ⟨Try.func22, by unfold FnOk; kernel_rfl, by kernel_rfl⟩, trivial⟩ Try.func4 rfl tt_ok (G := G) (by rw [hG]; exact ⟨⟨cloneB_ok, by unfold FnOk; kernel_rfl⟩, ⟨awake3_ok, by unfold FnOk; kernel_rfl⟩, trivial⟩) mixed (by kernel_rfl) ?_
  intro xa xs h hx hp
  obtain ⟨a0, as0, x0, xs0, rfl, rfl, h0, H1⟩ := svArgs_cons h
  obtain ⟨a1, as1, x1, xs1, rfl, rfl, h1, H2⟩ := svArgs_cons H1
  obtain ⟨rfl, rfl⟩ := svArgs_nil H2
  obtain ⟨b, rfl, rfl⟩ := argSV_ints h0
  obtain ⟨l, rfl, rfl⟩ := argSV_rows h1
  delta nrOs nrX rdOs rdX rmOs rmOsN rmX rmXN rwOs rwX
  have sb : Fits .u8 b ∧ ci b.length ≤ 9223372036854775807 := svf_ints (hx (.iimm .u8 b) (by simp))
  have sl : ci l.ls.length ≤ 9223372036854775807 ∧ Wt (.sl callTy) l := ⟨wtl_len (hx (.imm callTy l) (List.mem_of_getElem? (i := 1) rfl)), hx (.imm callTy l) (List.mem_of_getElem? (i := 1) rfl)⟩
  have SB := Lib.hid sb
  clear sb
  have SL := Lib.hid sl
  clear sl
  have HP := Lib.hid (hp _ rfl)
  clear hx hp h h0 H1 h1 H2
  generalize hA : std = A
  subst hG
  generalize h_c : ci = c
  generalize h_fl : lenP 1 = fl
  generalize h_fc : sameL = fc
  generalize h_fV : rdV = fV
  generalize h_fA : rdA = fA
  generalize h_fN : rdN = fN
  generalize h_fE : rdE = fE
  generalize h_fL : rwL = fL
  generalize h_fA2 : rwA = fA2
  generalize h_fN2 : rwN = fN2
  generalize h_fE2 : rwE = fE2
  generalize h_mL : rmL = mL
  generalize h_mE : rmE = mE
  generalize h_mR : rmR = mR
  generalize h_mV : rmV = mV
  generalize h_fs : smL = fs
  generalize h_fi : smI = fi
  generalize h_fw : pw8 = fw
  generalize h_fn : llenI = fn
  obtain ⟨D, hD⟩ : ∃ D : Int → Int → List Int, ∀ a n, D a n = dD b a n := ⟨_, fun _ _ => rfl⟩
  have HD := Lib.hid hD
  clear hD
  cbv
  (repeat' (first | apply And.intro | apply BrB.mk | apply BrP.mk | intro _))
  (all_goals try (exfalso; (subst hA; subst h_c; subst h_fl; subst h_fc; subst h_fV; subst h_fA; subst h_fN; subst h_fE; subst h_fL; subst h_fA2; subst h_fN2; subst h_fE2; subst h_mL; subst h_mE; subst h_mR; subst h_mV; subst h_fs; subst h_fi; subst h_fw; subst h_fn); (try simp only [std, stdBin, stdCmp, stdUna, stdIn, ci, beq_iff_eq, bne_iff_ne, beq_eq_false_iff_ne, bne_eq_false_iff_eq, decide_eq_true_eq, decide_eq_false_iff_not, Bool.not_true, Bool.not_false, Bool.not_eq_true', Bool.not_eq_false', Bool.not_not, tn0, tn1, tn2, tn3] at *); first | omega | contradiction))
  all_goals try (refine loop_at RsP 18 (fun x => [(4, .any), (7, .any), (8, .any), (9, .any), (10, .any), (18, .v (.int .i64 (c x.k)))]) (fun x o => (o.set 1 (.cells 56 [.sub 0 x.a x.n, .v (.int .i64 x.e)])).set 2 (.cells 33 [.iimm .u8 (D x.a x.n), .v (.int .i64 x.e)])) (fun x => RsOk b l.ls.length x) (fun x => l.ls.length - x.k) ⟨0, 0, fn b, 0⟩ ?h0 ?hle ?round)
  case h0 => exact ⟨Nat.zero_le _, Int.le_refl _, (by rw [← h_fn]; show (0 : Int) ≤ (b.length : Int); omega), (by rw [← h_fn]; show (0 : Int) + (b.length : Int) ≤ b.length; omega), .inl rfl⟩
  case hle =>
    cbv
    (repeat' (first | apply And.intro | apply BrB.mk | apply BrP.mk | intro _))
    (all_goals (subst hA; subst h_c; subst h_fl; subst h_fc; subst h_fV; subst h_fA; subst h_fN; subst h_fE; subst h_fL; subst h_fA2; subst h_fN2; subst h_fE2; subst h_mL; subst h_mE; subst h_mR; subst h_mV; subst h_fs; subst h_fi; subst h_fw; subst h_fn); all_goals (have f_sb := SB.out; have f_sl := SL.out; have f_hp := HP.out); all_goals (try simp only [std, stdBin, stdCmp, stdUna, stdIn, ci, beq_iff_eq, bne_iff_ne, beq_eq_false_iff_ne, bne_eq_false_iff_eq, decide_eq_true_eq, decide_eq_false_iff_not, Bool.not_true, Bool.not_false, Bool.not_eq_true', Bool.not_eq_false', Bool.not_not, tn0, tn1, tn2, tn3, llenI] at *); all_goals (try omega))
    all_goals (have hD := HD.out)
    all_goals first
      | rfl
      | (rw [hD]; show b = List.take (b.length : Int).toNat (List.drop (0 : Int).toNat b); simp)
      | trace_state
  case round =>
    rintro ⟨k, p, n, e⟩ hr
    cbv
    (repeat' (first | apply And.intro | apply BrB.mk | apply BrP.mk | intro _))
    (all_goals try (exfalso; (subst hA; subst h_c; subst h_fl; subst h_fc; subst h_fV; subst h_fA; subst h_fN; subst h_fE; subst h_fL; subst h_fA2; subst h_fN2; subst h_fE2; subst h_mL; subst h_mE; subst h_mR; subst h_mV; subst h_fs; subst h_fi; subst h_fw; subst h_fn); (try simp only [std, stdBin, stdCmp, stdUna, stdIn, ci, beq_iff_eq, bne_iff_ne, beq_eq_false_iff_ne, bne_eq_false_iff_eq, decide_eq_true_eq, decide_eq_false_iff_not, Bool.not_true, Bool.not_false, Bool.not_eq_true', Bool.not_eq_false', Bool.not_not, tn0, tn1, tn2, tn3] at *); first | omega | contradiction))
    all_goals try (first
      | (have q : A.cmp .eql (A.dint (A.dfld (A.dat l (c k)) 0)) 0 = true := (by assumption); refine ⟨⟨k + 1, fA p n e 1, fN n e 1, fE n e 1⟩, ?_, ?_, ?_⟩)
      | (have q : A.cmp .eql (A.dint (A.dfld (A.dat l (c k)) 0)) 1 = true := (by assumption); refine ⟨⟨k + 1, fA p n e 2, fN n e 2, fE n e 2⟩, ?_, ?_, ?_⟩)
      | (have q : A.cmp .eql (A.dint (A.dfld (A.dat l (c k)) 0)) 2 = true := (by assumption); refine ⟨⟨k + 1, fA p n e 4, fN n e 4, fE n e 4⟩, ?_, ?_, ?_⟩)
      | (have q : A.cmp .eql (A.dint (A.dfld (A.dat l (c k)) 0)) 3 = true := (by assumption); refine ⟨⟨k + 1, fA p n e 8, fN n e 8, fE n e 8⟩, ?_, ?_, ?_⟩)
      | (refine ⟨⟨k + 1, fA2 p n e (A.bin .sub .i64 (A.cnv .i64 (A.bin .rem .u64 (A.dint (A.dfld (A.dat l (c k)) 1)) 40)) 3), fN2 n e (A.bin .sub .i64 (A.cnv .i64 (A.bin .rem .u64 (A.dint (A.dfld (A.dat l (c k)) 1)) 40)) 3), fE2 n e (A.bin .sub .i64 (A.cnv .i64 (A.bin .rem .u64 (A.dint (A.dfld (A.dat l (c k)) 1)) 40)) 3)⟩, ?_, ?_, ?_⟩))
    all_goals try (show AS.le _ _; cbv; (repeat' (first | apply And.intro | apply BrB.mk | apply BrP.mk | intro _)))
    (all_goals (subst hA; subst h_c; subst h_fl; subst h_fc; subst h_fV; subst h_fA; subst h_fN; subst h_fE; subst h_fL; subst h_fA2; subst h_fN2; subst h_fE2; subst h_mL; subst h_mE; subst h_mR; subst h_mV; subst h_fs; subst h_fi; subst h_fw; subst h_fn); all_goals (have f_sb := SB.out; have f_sl := SL.out; have f_hp := HP.out); all_goals (try simp only [std, stdBin, stdCmp, stdUna, stdIn, ci, beq_iff_eq, bne_iff_ne, beq_eq_false_iff_ne, bne_eq_false_iff_eq, decide_eq_true_eq, decide_eq_false_iff_not, Bool.not_true, Bool.not_false, Bool.not_eq_true', Bool.not_eq_false', Bool.not_not, tn0, tn1, tn2, tn3, lenP, sameL] at *); all_goals (try omega))
    all_goals (have hD := HD.out; have h0 : ((b.length : Nat) : Int) * 1 ≤ 140737488355328 := f_hp _ rfl; have hr2 := hr; obtain ⟨hk0, q1, q2, q3, q4⟩ := hr)
    all_goals (have q1 : 0 ≤ p := q1; have q2 : 0 ≤ n := q2; have q3 : p + n ≤ (b.length : Int) := q3)
    all_goals try first
      | exact ⟨by decide, by decide⟩
      | (show smL (D p n); rw [hD]; show ((dD b p n).length : Int) ≤ 140737488355328; rw [dD_len q1 q2 q3]; omega)
      | (show n ≤ 140737488355328; omega)
    all_goals (have hk : k < l.ls.length := (by have hk9 : ((k : Nat) : Int) < ((l.ls.length : Nat) : Int) := (by assumption); omega))
    all_goals try (show Value.int .i64 (IntKind.i64.wrap ((k : Int) + 1)) = Value.int .i64 ((k.succ : Nat) : Int); rw [w64 (by omega) (by omega)]; exact congrArg (Value.int .i64) (by omega))
    all_goals try (show l.ls.length - (k + 1) < l.ls.length - k; omega)
    all_goals first
      | (have q : ((l.at (k : Int).toNat).fld 0).z = 0 := (by assumption)
         obtain ⟨z1, z2, z3, z4, z5⟩ := rd_all (wd := 1) hr2 hk (by decide)
         rw [← hD] at z1 z2 z3
         first
         | exact z5
         | omega
         | exact congrArg (Value.int .i64) z3.symm
         | (show rmL (D p n) e _ = D _ _; rw [hD, hD]; exact z4)
         | (exfalso; omega)
         | (exfalso; have w9 : IntKind.i64.wrap (rdV b p n e 1) ≠ IntKind.i64.wrap (rmV (D p n) e 1) := (by assumption); exact w9 (by rw [z1])))
      | (have q : ((l.at (k : Int).toNat).fld 0).z = 1 := (by assumption)
         obtain ⟨z1, z2, z3, z4, z5⟩ := rd_all (wd := 2) hr2 hk (by decide)
         rw [← hD] at z1 z2 z3
         first
         | exact z5
         | omega
         | exact congrArg (Value.int .i64) z3.symm
         | (show rmL (D p n) e _ = D _ _; rw [hD, hD]; exact z4)
         | (exfalso; omega)
         | (exfalso; have w9 : IntKind.i64.wrap (rdV b p n e 2) ≠ IntKind.i64.wrap (rmV (D p n) e 2) := (by assumption); exact w9 (by rw [z1])))
      | (have q : ((l.at (k : Int).toNat).fld 0).z = 2 := (by assumption)
         obtain ⟨z1, z2, z3, z4, z5⟩ := rd_all (wd := 4) hr2 hk (by decide)
         rw [← hD] at z1 z2 z3
         first
         | exact z5
         | omega
         | exact congrArg (Value.int .i64) z3.symm
         | (show rmL (D p n) e _ = D _ _; rw [hD, hD]; exact z4)
         | (exfalso; omega)
         | (exfalso; have w9 : IntKind.u32.wrap (rdV b p n e 4) ≠ IntKind.u32.wrap (rmV (D p n) e 4) := (by assumption); exact w9 (by rw [z1])))
      | (have q : ((l.at (k : Int).toNat).fld 0).z = 3 := (by assumption)
         obtain ⟨z1, z2, z3, z4, z5⟩ := rd_all (wd := 8) hr2 hk (by decide)
         rw [← hD] at z1 z2 z3
         first
         | exact z5
         | omega
         | exact congrArg (Value.int .i64) z3.symm
         | (show rmL (D p n) e _ = D _ _; rw [hD, hD]; exact z4)
         | (exfalso; omega)
         | (exfalso; rw [z1] at *; contradiction))
      | (obtain ⟨z1, z2, z3, z4, z5⟩ := rw_all (wd := IntKind.i64.wrap (IntKind.i64.wrap (((l.at (k : Int).toNat).fld 1).z.tmod 40) - 3)) hr2 hk
         rw [← hD] at z1 z2 z3
         first
         | exact z5
         | omega
         | exact congrArg (Value.int .i64) z3.symm
         | (show rmL (D p n) e _ = D _ _; rw [hD, hD]; exact z4)
         | (exfalso; omega)
         | (exfalso; have w9 : (strOfNums (rwL b p n e (IntKind.i64.wrap (IntKind.i64.wrap (((l.at (k : Int).toNat).fld 1).z.tmod 40) - 3)))).toList ≠ (strOfNums (rmR (D p n) e (IntKind.i64.wrap (IntKind.i64.wrap (((l.at (k : Int).toNat).fld 1).z.tmod 40) - 3)))).toList := (by assumption); exact w9 (by rw [z1])))
      | trace_state
  (all_goals (subst hA; subst h_c; subst h_fl; subst h_fc; subst h_fV; subst h_fA; subst h_fN; subst h_fE; subst h_fL; subst h_fA2; subst h_fN2; subst h_fE2; subst h_mL; subst h_mE; subst h_mR; subst h_mV; subst h_fs; subst h_fi; subst h_fw; subst h_fn); all_goals (have f_sb := SB.out; have f_sl := SL.out; have f_hp := HP.out); all_goals (try simp only [std, stdBin, stdCmp, stdUna, stdIn, ci, beq_iff_eq, bne_iff_ne, beq_eq_false_iff_ne, bne_eq_false_iff_eq, decide_eq_true_eq, decide_eq_false_iff_not, Bool.not_true, Bool.not_false, Bool.not_eq_true', Bool.not_eq_false', Bool.not_not, tn0, tn1, tn2, tn3, lenP, sameL] at *); all_goals (try omega))
  all_goals first
    | exact f_hp _ rfl
    | (have h0 : ((b.length : Nat) : Int) * 1 ≤ 140737488355328 := f_hp _ rfl; show ((b.length : Nat) : Int) ≤ 140737488355328; omega)
    | trace_state
end Go.Proofs.Ythklcldmoakbfaa
