/- Layer 10's counterpart: there. -/
import Derived.Test.YtcbcfajihbbdcaaDenG
namespace Go.Proofs.Ytcbcfajihbbdcaa
open Go.RowKit
set_option maxRecDepth 100000
set_option linter.unusedSimpArgs false
set_option linter.unusedVariables false
set_option maxHeartbeats 8000000
theorem rdense_ok : CtrOk Try.prog 25 (resC [tnTy .i8, tnTy .i8, tnTy .i8] .i32 3 21 (t3 fwdErr 0) (t3 fwdRes ⟨[], 0, []⟩)) := by
  obtain ⟨G, hG⟩ : ∃ G : List (FuncId × Ctr), G = [(53, boolC [.sl (tnTy .i8)] mayAllF), (34, boolC [.int .i64] fitsF), (72, boolC [.sl (.int .i64)] shMayF), (73, intC [.sl (.int .i64)] .i64 szF), (55, intC [.int .i64, .int .i64, .int .i64] .i64 alF)] := ⟨_, rfl⟩
  refine fn_inl (ck := true) [(54, Try.f54), (69, Try.f69)] ⟨⟨Try.func54, by unfold FnOk; kernel_rfl, by kernel_rfl⟩, ⟨Try.func69, by unfold FnOk; kernel_rfl, by kernel_rfl⟩, trivial⟩ Try.func25 rfl tt_ok (G := G) (by rw [hG]; exact ⟨⟨rtmay_ok, by unfold FnOk; kernel_rfl⟩, ⟨rfits_ok, by unfold FnOk; kernel_rfl⟩, ⟨rmay_ok, by unfold FnOk; kernel_rfl⟩, ⟨rsize_ok, by unfold FnOk; kernel_rfl⟩, ⟨ral_ok, by unfold FnOk; kernel_rfl⟩, trivial⟩) mixed (by kernel_rfl) ?_
  intro xa xs h hx hp
  obtain ⟨a0, as0, x0, xs0, rfl, rfl, h0, H1⟩ := svArgs_cons h
  obtain ⟨a1, as1, x1, xs1, rfl, rfl, h1, H2⟩ := svArgs_cons H1
  obtain ⟨a2, as2, x2, xs2, rfl, rfl, h2, H3⟩ := svArgs_cons H2
  obtain ⟨rfl, rfl⟩ := svArgs_nil H3
  obtain ⟨⟨xD, xE, xL⟩, rfl, rfl⟩ := argSV_tn h0
  obtain ⟨⟨wD, wE, wL⟩, rfl, rfl⟩ := argSV_tn h1
  obtain ⟨⟨bD, bE, bL⟩, rfl, rfl⟩ := argSV_tn h2
  have sx : (Fits .i64 xD ∧ ci xD.length ≤ 9223372036854775807) ∧ (-9223372036854775808 ≤ xE ∧ xE ≤ 9223372036854775807) ∧ Fits .i8 xL ∧ ci xL.length ≤ 9223372036854775807 := svf_tn (hx (Tn.sv .i8 ⟨xD, xE, xL⟩) (by simp))
  have sw : (Fits .i64 wD ∧ ci wD.length ≤ 9223372036854775807) ∧ (-9223372036854775808 ≤ wE ∧ wE ≤ 9223372036854775807) ∧ Fits .i8 wL ∧ ci wL.length ≤ 9223372036854775807 := svf_tn (hx (Tn.sv .i8 ⟨wD, wE, wL⟩) (by simp))
  have sb : (Fits .i64 bD ∧ ci bD.length ≤ 9223372036854775807) ∧ (-9223372036854775808 ≤ bE ∧ bE ≤ 9223372036854775807) ∧ Fits .i8 bL ∧ ci bL.length ≤ 9223372036854775807 := svf_tn (hx (Tn.sv .i8 ⟨bD, bE, bL⟩) (by simp))
  have SX := Lib.hid sx
  clear sx
  have SW := Lib.hid sw
  clear sw
  have SB := Lib.hid sb
  clear sb
  clear hx hp h h0 H1 h1 H2 h2 H3
  generalize hA : std = A
  subst hG
  generalize h_c : ci = c
  generalize h_fm : mayAllF = fm
  generalize h_ff : fitsF = ff
  generalize h_fd : shMayF = fd
  generalize h_fs : szF = fs
  generalize h_fa : alF = fa
  generalize h_fE : t3 fwdErr 0 = fE
  generalize h_fR : t3 fwdRes ⟨[], 0, []⟩ = fR
  obtain ⟨T, hT⟩ : ∃ T : Nat → Nat → List Int, ∀ i o, T i o = mixL (fun _ => 0) (outL ⟨xD, xE, xL⟩ ⟨wD, wE, wL⟩ ⟨bD, bE, bL⟩) ((xD.getD 0 0).toNat * (wD.getD 0 0).toNat) (i * (wD.getD 0 0).toNat + o) := ⟨_, fun _ _ => rfl⟩
  obtain ⟨V, hV⟩ : ∃ V : Nat → Nat → Nat → Int, ∀ i o j, V i o j = alignI (bL.getD o 0) bE (xE + wE) + sumTo (prI (rowsR ⟨xD, xE, xL⟩) (rowsR ⟨wD, wE, wL⟩) (ci i) (ci o)) 0 j := ⟨_, fun _ _ _ => rfl⟩
  cbv
  (repeat' (first | apply And.intro | apply BrB.mk | apply BrP.mk | intro _))
  (all_goals try (exfalso; (subst hA; subst h_c; subst h_fm; subst h_ff; subst h_fd; subst h_fs; subst h_fa; subst h_fE; subst h_fR); (try simp only [std, stdBin, stdCmp, stdUna, stdIn, ci, beq_iff_eq, bne_iff_ne, beq_eq_false_iff_ne, bne_eq_false_iff_eq, decide_eq_true_eq, decide_eq_false_iff_not, Bool.not_true, Bool.not_false, Bool.not_eq_true', Bool.not_eq_false', Bool.not_not, tn0, tn1, tn2, tn3] at *); first | omega | contradiction))
  all_goals try (refine loop_at Nat 93 (fun x => [(13, .any), (14, .any), (15, .any), (16, .any), (93, .v (.int .i64 (c x)))]) (fun x o => o.set 8 (.irow 21 .i32 (T x 0))) (fun x => ci x ≤ xD.getD 0 0) (fun x => (xD.getD 0 0 - ci x).toNat) 0 ?h0 ?hle ?round)
  case h0 =>
    (all_goals (subst hA; subst h_c; subst h_fm; subst h_ff; subst h_fd; subst h_fs; subst h_fa; subst h_fE; subst h_fR); all_goals (have f_sx := SX.out; have f_sw := SW.out; have f_sb := SB.out); all_goals (try simp only [std, stdBin, stdCmp, stdUna, stdIn, ci, beq_iff_eq, bne_iff_ne, beq_eq_false_iff_ne, bne_eq_false_iff_eq, decide_eq_true_eq, decide_eq_false_iff_not, Bool.not_true, Bool.not_false, Bool.not_eq_true', Bool.not_eq_false', Bool.not_not, tn0, tn1, tn2, tn3, t3, mayD3, szF, shMayF, alF] at *); all_goals (try omega))
    all_goals (obtain ⟨n, k, m, e1, e2, e3, e4, e5, ⟨n1, n2⟩, ⟨k1, k2⟩, ⟨m1, m2⟩, l1, l2, l3, nm, sz, ⟨x1, x2, x3⟩⟩ := fwd_main (x := ⟨xD, xE, xL⟩) (w := ⟨wD, wE, wL⟩) (b := ⟨bD, bE, bL⟩) (by assumption) (by assumption) (by assumption) (by assumption) (by assumption) (by assumption) (by assumption) (by assumption); simp only at e1 e2 e3 e4 e5 l1 l2 l3 x1 x2 x3)
    omega
  case hle =>
    cbv
    (repeat' (first | apply And.intro | apply BrB.mk | apply BrP.mk | intro _))
    (all_goals (subst hA; subst h_c; subst h_fm; subst h_ff; subst h_fd; subst h_fs; subst h_fa; subst h_fE; subst h_fR); all_goals (have f_sx := SX.out; have f_sw := SW.out; have f_sb := SB.out); all_goals (try simp only [std, stdBin, stdCmp, stdUna, stdIn, ci, beq_iff_eq, bne_iff_ne, beq_eq_false_iff_ne, bne_eq_false_iff_eq, decide_eq_true_eq, decide_eq_false_iff_not, Bool.not_true, Bool.not_false, Bool.not_eq_true', Bool.not_eq_false', Bool.not_not, tn0, tn1, tn2, tn3, t3, mayD3, szF, shMayF, alF] at *); all_goals (try omega))
    all_goals first | exact True.intro | rfl | skip
    all_goals (obtain ⟨n, k, m, e1, e2, e3, e4, e5, ⟨n1, n2⟩, ⟨k1, k2⟩, ⟨m1, m2⟩, l1, l2, l3, nm, sz, ⟨x1, x2, x3⟩⟩ := fwd_main (x := ⟨xD, xE, xL⟩) (w := ⟨wD, wE, wL⟩) (b := ⟨bD, bE, bL⟩) (by assumption) (by assumption) (by assumption) (by assumption) (by assumption) (by assumption) (by assumption) (by assumption); simp only at e1 e2 e3 e4 e5 l1 l2 l3 x1 x2 x3)
    rw [hT, e1, e3, sz, Nat.zero_mul, Int.toNat_natCast, Int.toNat_natCast, Int.toNat_natCast, mixL_nil]
  case round =>
    intro i hi
    cbv
    refine BrB.mk (fun gi => ?yi) (fun gi => ?ni)
    case yi =>
      refine loop_at Nat 97 (fun x => [(14, .any), (15, .any), (16, .any), (97, .v (.int .i64 (c x)))]) (fun x o => o.set 8 (.irow 21 .i32 (T i x))) (fun x => ci x ≤ wD.getD 0 0) (fun x => (wD.getD 0 0 - ci x).toNat) 0 ?h0 ?hle ?round
      case h0 =>
        (all_goals (subst hA; subst h_c; subst h_fm; subst h_ff; subst h_fd; subst h_fs; subst h_fa; subst h_fE; subst h_fR); all_goals (have f_sx := SX.out; have f_sw := SW.out; have f_sb := SB.out); all_goals (try simp only [std, stdBin, stdCmp, stdUna, stdIn, ci, beq_iff_eq, bne_iff_ne, beq_eq_false_iff_ne, bne_eq_false_iff_eq, decide_eq_true_eq, decide_eq_false_iff_not, Bool.not_true, Bool.not_false, Bool.not_eq_true', Bool.not_eq_false', Bool.not_not, tn0, tn1, tn2, tn3, t3, mayD3, szF, shMayF, alF] at *); all_goals (try omega))
        all_goals (obtain ⟨n, k, m, e1, e2, e3, e4, e5, ⟨n1, n2⟩, ⟨k1, k2⟩, ⟨m1, m2⟩, l1, l2, l3, nm, sz, ⟨x1, x2, x3⟩⟩ := fwd_main (x := ⟨xD, xE, xL⟩) (w := ⟨wD, wE, wL⟩) (b := ⟨bD, bE, bL⟩) (by assumption) (by assumption) (by assumption) (by assumption) (by assumption) (by assumption) (by assumption) (by assumption); simp only at e1 e2 e3 e4 e5 l1 l2 l3 x1 x2 x3)
        omega
      case hle =>
        cbv
        (repeat' (first | apply And.intro | apply BrB.mk | apply BrP.mk | intro _))
        (all_goals (subst hA; subst h_c; subst h_fm; subst h_ff; subst h_fd; subst h_fs; subst h_fa; subst h_fE; subst h_fR); all_goals (have f_sx := SX.out; have f_sw := SW.out; have f_sb := SB.out); all_goals (try simp only [std, stdBin, stdCmp, stdUna, stdIn, ci, beq_iff_eq, bne_iff_ne, beq_eq_false_iff_ne, bne_eq_false_iff_eq, decide_eq_true_eq, decide_eq_false_iff_not, Bool.not_true, Bool.not_false, Bool.not_eq_true', Bool.not_eq_false', Bool.not_not, tn0, tn1, tn2, tn3, t3, mayD3, szF, shMayF, alF] at *); all_goals (try omega))
        all_goals first | exact True.intro | rfl | skip
      case round =>
        intro o ho
        cbv
        refine BrB.mk (fun go => ?yo) (fun go => ?no)
        case yo =>
          (repeat' (first | apply And.intro | apply BrB.mk | apply BrP.mk | intro _))
          all_goals try (refine loop_at Nat 112 (fun x => [(15, .v (.int .i64 (V i o x))), (16, .any), (112, .v (.int .i64 (c x)))]) (fun _ o => o) (fun x => ci x ≤ xD.getD 1 0) (fun x => (xD.getD 1 0 - ci x).toNat) 0 ?h0 ?hle ?round)
          case h0 =>
            (all_goals (subst hA; subst h_c; subst h_fm; subst h_ff; subst h_fd; subst h_fs; subst h_fa; subst h_fE; subst h_fR); all_goals (have f_sx := SX.out; have f_sw := SW.out; have f_sb := SB.out); all_goals (try simp only [std, stdBin, stdCmp, stdUna, stdIn, ci, beq_iff_eq, bne_iff_ne, beq_eq_false_iff_ne, bne_eq_false_iff_eq, decide_eq_true_eq, decide_eq_false_iff_not, Bool.not_true, Bool.not_false, Bool.not_eq_true', Bool.not_eq_false', Bool.not_not, tn0, tn1, tn2, tn3, t3, mayD3, szF, shMayF, alF] at *); all_goals (try omega))
            all_goals (obtain ⟨n, k, m, e1, e2, e3, e4, e5, ⟨n1, n2⟩, ⟨k1, k2⟩, ⟨m1, m2⟩, l1, l2, l3, nm, sz, ⟨x1, x2, x3⟩⟩ := fwd_main (x := ⟨xD, xE, xL⟩) (w := ⟨wD, wE, wL⟩) (b := ⟨bD, bE, bL⟩) (by assumption) (by assumption) (by assumption) (by assumption) (by assumption) (by assumption) (by assumption) (by assumption); simp only at e1 e2 e3 e4 e5 l1 l2 l3 x1 x2 x3)
            omega
          case hle =>
            cbv
            (repeat' (first | apply And.intro | apply BrB.mk | apply BrP.mk | intro _))
            (all_goals (subst hA; subst h_c; subst h_fm; subst h_ff; subst h_fd; subst h_fs; subst h_fa; subst h_fE; subst h_fR); all_goals (have f_sx := SX.out; have f_sw := SW.out; have f_sb := SB.out); all_goals (try simp only [std, stdBin, stdCmp, stdUna, stdIn, ci, beq_iff_eq, bne_iff_ne, beq_eq_false_iff_ne, bne_eq_false_iff_eq, decide_eq_true_eq, decide_eq_false_iff_not, Bool.not_true, Bool.not_false, Bool.not_eq_true', Bool.not_eq_false', Bool.not_not, tn0, tn1, tn2, tn3, t3, mayD3, szF, shMayF, alF] at *); all_goals (try omega))
            all_goals first | exact True.intro | rfl | skip
            rw [hV, Int.toNat_natCast, sumTo, Int.add_zero]
          case round =>
            intro j hj
            cbv
            refine BrB.mk (fun gj => ?yj) (fun gj => ?nj)
            case yj =>
              (repeat' (first | apply And.intro | apply BrB.mk | apply BrP.mk | intro _))
              all_goals try (refine ⟨j + 1, ?jI, ?jL, ?jM⟩)
              case jL =>
                cbv
                (repeat' (first | apply And.intro | apply BrB.mk | apply BrP.mk | intro _))
                (all_goals (subst hA; subst h_c; subst h_fm; subst h_ff; subst h_fd; subst h_fs; subst h_fa; subst h_fE; subst h_fR); all_goals (have f_sx := SX.out; have f_sw := SW.out; have f_sb := SB.out); all_goals (try simp only [std, stdBin, stdCmp, stdUna, stdIn, ci, beq_iff_eq, bne_iff_ne, beq_eq_false_iff_ne, bne_eq_false_iff_eq, decide_eq_true_eq, decide_eq_false_iff_not, Bool.not_true, Bool.not_false, Bool.not_eq_true', Bool.not_eq_false', Bool.not_not, tn0, tn1, tn2, tn3, t3, mayD3, szF, shMayF, alF] at *); all_goals (try omega))
                all_goals first | exact True.intro | rfl | skip
                all_goals (obtain ⟨n, k, m, e1, e2, e3, e4, e5, ⟨n1, n2⟩, ⟨k1, k2⟩, ⟨m1, m2⟩, l1, l2, l3, nm, sz, ⟨x1, x2, x3⟩⟩ := fwd_main (x := ⟨xD, xE, xL⟩) (w := ⟨wD, wE, wL⟩) (b := ⟨bD, bE, bL⟩) (by assumption) (by assumption) (by assumption) (by assumption) (by assumption) (by assumption) (by assumption) (by assumption); simp only at e1 e2 e3 e4 e5 l1 l2 l3 x1 x2 x3)
                refine congrArg _ ?_
                rw [hV, hV, e2, sumTo, prI_nat (rowsR ⟨xD, xE, xL⟩) (rowsR ⟨wD, wE, wL⟩) i o j k k 1 1 e2 e4 rfl rfl, ← Int.natCast_mul, ← Int.natCast_add, ← Int.natCast_mul, ← Int.natCast_add, Int.toNat_natCast, Int.toNat_natCast, Nat.mul_one, Int.add_assoc]
                rfl
              (all_goals (subst hA; subst h_c; subst h_fm; subst h_ff; subst h_fd; subst h_fs; subst h_fa; subst h_fE; subst h_fR); all_goals (have f_sx := SX.out; have f_sw := SW.out; have f_sb := SB.out); all_goals (try simp only [std, stdBin, stdCmp, stdUna, stdIn, ci, beq_iff_eq, bne_iff_ne, beq_eq_false_iff_ne, bne_eq_false_iff_eq, decide_eq_true_eq, decide_eq_false_iff_not, Bool.not_true, Bool.not_false, Bool.not_eq_true', Bool.not_eq_false', Bool.not_not, tn0, tn1, tn2, tn3, t3, mayD3, szF, shMayF, alF] at *); all_goals (try omega))
              all_goals (obtain ⟨n, k, m, e1, e2, e3, e4, e5, ⟨n1, n2⟩, ⟨k1, k2⟩, ⟨m1, m2⟩, l1, l2, l3, nm, sz, ⟨x1, x2, x3⟩⟩ := fwd_main (x := ⟨xD, xE, xL⟩) (w := ⟨wD, wE, wL⟩) (b := ⟨bD, bE, bL⟩) (by assumption) (by assumption) (by assumption) (by assumption) (by assumption) (by assumption) (by assumption) (by assumption); simp only at e1 e2 e3 e4 e5 l1 l2 l3 x1 x2 x3)
              all_goals (have q1 := idx_lt (i := i) (n := n) (j := j) (k := k) (by omega) (by omega))
              all_goals (have q2 := idx_lt (i := o) (n := m) (j := j) (k := k) (by omega) (by omega))
              all_goals (have a1 := fits8 f_sx.2.2.1 (i * k + j); have a2 := fits8 f_sw.2.2.1 (o * k + j))
              all_goals (have a3 := mulAbs (A := 128) (B := 128) a1.1 (by omega) a2.1 (by omega))
              all_goals (have a4 := alignS _ bE (xE + wE) (fits8 f_sb.2.2.1 o))
              all_goals (have a5 := sumTo_in _ 0 (prI_in (a := rowsR ⟨xD, xE, xL⟩) (b := rowsR ⟨wD, wE, wL⟩) f_sx.2.2.1 f_sw.2.2.1 (i : Int) (o : Int)) j)
              all_goals (try simp only [e2, hV, ← Int.natCast_mul, ← Int.natCast_add, Int.toNat_natCast])
              all_goals omega
            case nj =>
              (repeat' (first | apply And.intro | apply BrB.mk | apply BrP.mk | intro _))
              all_goals try (refine ⟨o + 1, ?oI, ?oL, ?oM⟩)
              case oL =>
                cbv
                (repeat' (first | apply And.intro | apply BrB.mk | apply BrP.mk | intro _))
                (all_goals (subst hA; subst h_c; subst h_fm; subst h_ff; subst h_fd; subst h_fs; subst h_fa; subst h_fE; subst h_fR); all_goals (have f_sx := SX.out; have f_sw := SW.out; have f_sb := SB.out); all_goals (try simp only [std, stdBin, stdCmp, stdUna, stdIn, ci, beq_iff_eq, bne_iff_ne, beq_eq_false_iff_ne, bne_eq_false_iff_eq, decide_eq_true_eq, decide_eq_false_iff_not, Bool.not_true, Bool.not_false, Bool.not_eq_true', Bool.not_eq_false', Bool.not_not, tn0, tn1, tn2, tn3, t3, mayD3, szF, shMayF, alF] at *); all_goals (try omega))
                all_goals first | exact True.intro | rfl | skip
                all_goals (obtain ⟨n, k, m, e1, e2, e3, e4, e5, ⟨n1, n2⟩, ⟨k1, k2⟩, ⟨m1, m2⟩, l1, l2, l3, nm, sz, ⟨x1, x2, x3⟩⟩ := fwd_main (x := ⟨xD, xE, xL⟩) (w := ⟨wD, wE, wL⟩) (b := ⟨bD, bE, bL⟩) (by assumption) (by assumption) (by assumption) (by assumption) (by assumption) (by assumption) (by assumption) (by assumption); simp only at e1 e2 e3 e4 e5 l1 l2 l3 x1 x2 x3)
                have a4 := alignS _ bE (xE + wE) (fits8 f_sb.2.2.1 o)
                have a5 := sumTo_in _ 0 (prI_in (a := rowsR ⟨xD, xE, xL⟩) (b := rowsR ⟨wD, wE, wL⟩) f_sx.2.2.1 f_sw.2.2.1 (i : Int) (o : Int)) k
                rw [hT, hT, hV, e1, e3, show j = k by omega]
                simp only [← Int.natCast_mul, ← Int.natCast_add, Int.toNat_natCast]
                refine mixL_store (idx_lt (by omega) (by omega)) ?_
                rw [outL_at (i := i) (n := n) e2 e3 l3 e4 (by omega), w32 (by omega) (by omega)]
              (all_goals (subst hA; subst h_c; subst h_fm; subst h_ff; subst h_fd; subst h_fs; subst h_fa; subst h_fE; subst h_fR); all_goals (have f_sx := SX.out; have f_sw := SW.out; have f_sb := SB.out); all_goals (try simp only [std, stdBin, stdCmp, stdUna, stdIn, ci, beq_iff_eq, bne_iff_ne, beq_eq_false_iff_ne, bne_eq_false_iff_eq, decide_eq_true_eq, decide_eq_false_iff_not, Bool.not_true, Bool.not_false, Bool.not_eq_true', Bool.not_eq_false', Bool.not_not, tn0, tn1, tn2, tn3, t3, mayD3, szF, shMayF, alF] at *); all_goals (try omega))
              all_goals (obtain ⟨n, k, m, e1, e2, e3, e4, e5, ⟨n1, n2⟩, ⟨k1, k2⟩, ⟨m1, m2⟩, l1, l2, l3, nm, sz, ⟨x1, x2, x3⟩⟩ := fwd_main (x := ⟨xD, xE, xL⟩) (w := ⟨wD, wE, wL⟩) (b := ⟨bD, bE, bL⟩) (by assumption) (by assumption) (by assumption) (by assumption) (by assumption) (by assumption) (by assumption) (by assumption); simp only at e1 e2 e3 e4 e5 l1 l2 l3 x1 x2 x3)
              all_goals (have q1 := idx_lt (i := i) (n := n) (j := o) (k := m) (by omega) (by omega))
              all_goals (try simp only [e1, e3, hT, mixL_len, ← Int.natCast_mul, ← Int.natCast_add, Int.toNat_natCast])
              all_goals omega
          (all_goals (subst hA; subst h_c; subst h_fm; subst h_ff; subst h_fd; subst h_fs; subst h_fa; subst h_fE; subst h_fR); all_goals (have f_sx := SX.out; have f_sw := SW.out; have f_sb := SB.out); all_goals (try simp only [std, stdBin, stdCmp, stdUna, stdIn, ci, beq_iff_eq, bne_iff_ne, beq_eq_false_iff_ne, bne_eq_false_iff_eq, decide_eq_true_eq, decide_eq_false_iff_not, Bool.not_true, Bool.not_false, Bool.not_eq_true', Bool.not_eq_false', Bool.not_not, tn0, tn1, tn2, tn3, t3, mayD3, szF, shMayF, alF] at *); all_goals (try omega))
          all_goals (obtain ⟨n, k, m, e1, e2, e3, e4, e5, ⟨n1, n2⟩, ⟨k1, k2⟩, ⟨m1, m2⟩, l1, l2, l3, nm, sz, ⟨x1, x2, x3⟩⟩ := fwd_main (x := ⟨xD, xE, xL⟩) (w := ⟨wD, wE, wL⟩) (b := ⟨bD, bE, bL⟩) (by assumption) (by assumption) (by assumption) (by assumption) (by assumption) (by assumption) (by assumption) (by assumption); simp only at e1 e2 e3 e4 e5 l1 l2 l3 x1 x2 x3)
          all_goals omega
        case no =>
          (repeat' (first | apply And.intro | apply BrB.mk | apply BrP.mk | intro _))
          all_goals try (refine ⟨i + 1, ?iI, ?iL, ?iM⟩)
          case iL =>
            cbv
            (repeat' (first | apply And.intro | apply BrB.mk | apply BrP.mk | intro _))
            (all_goals (subst hA; subst h_c; subst h_fm; subst h_ff; subst h_fd; subst h_fs; subst h_fa; subst h_fE; subst h_fR); all_goals (have f_sx := SX.out; have f_sw := SW.out; have f_sb := SB.out); all_goals (try simp only [std, stdBin, stdCmp, stdUna, stdIn, ci, beq_iff_eq, bne_iff_ne, beq_eq_false_iff_ne, bne_eq_false_iff_eq, decide_eq_true_eq, decide_eq_false_iff_not, Bool.not_true, Bool.not_false, Bool.not_eq_true', Bool.not_eq_false', Bool.not_not, tn0, tn1, tn2, tn3, t3, mayD3, szF, shMayF, alF] at *); all_goals (try omega))
            all_goals first | exact True.intro | rfl | skip
            all_goals (obtain ⟨n, k, m, e1, e2, e3, e4, e5, ⟨n1, n2⟩, ⟨k1, k2⟩, ⟨m1, m2⟩, l1, l2, l3, nm, sz, ⟨x1, x2, x3⟩⟩ := fwd_main (x := ⟨xD, xE, xL⟩) (w := ⟨wD, wE, wL⟩) (b := ⟨bD, bE, bL⟩) (by assumption) (by assumption) (by assumption) (by assumption) (by assumption) (by assumption) (by assumption) (by assumption); simp only at e1 e2 e3 e4 e5 l1 l2 l3 x1 x2 x3)
            rw [hT, hT, e3, Int.toNat_natCast, show o = m by omega, Nat.add_zero]
            show _ = mixL _ _ _ ((i + 1) * m)
            rw [Nat.add_mul, Nat.one_mul]
          (all_goals (subst hA; subst h_c; subst h_fm; subst h_ff; subst h_fd; subst h_fs; subst h_fa; subst h_fE; subst h_fR); all_goals (have f_sx := SX.out; have f_sw := SW.out; have f_sb := SB.out); all_goals (try simp only [std, stdBin, stdCmp, stdUna, stdIn, ci, beq_iff_eq, bne_iff_ne, beq_eq_false_iff_ne, bne_eq_false_iff_eq, decide_eq_true_eq, decide_eq_false_iff_not, Bool.not_true, Bool.not_false, Bool.not_eq_true', Bool.not_eq_false', Bool.not_not, tn0, tn1, tn2, tn3, t3, mayD3, szF, shMayF, alF] at *); all_goals (try omega))
          all_goals (obtain ⟨n, k, m, e1, e2, e3, e4, e5, ⟨n1, n2⟩, ⟨k1, k2⟩, ⟨m1, m2⟩, l1, l2, l3, nm, sz, ⟨x1, x2, x3⟩⟩ := fwd_main (x := ⟨xD, xE, xL⟩) (w := ⟨wD, wE, wL⟩) (b := ⟨bD, bE, bL⟩) (by assumption) (by assumption) (by assumption) (by assumption) (by assumption) (by assumption) (by assumption) (by assumption); simp only at e1 e2 e3 e4 e5 l1 l2 l3 x1 x2 x3)
          all_goals omega
    case ni =>
      (repeat' (first | apply And.intro | apply BrB.mk | apply BrP.mk | intro _))
      (all_goals (subst hA; subst h_c; subst h_fm; subst h_ff; subst h_fd; subst h_fs; subst h_fa; subst h_fE; subst h_fR); all_goals (have f_sx := SX.out; have f_sw := SW.out; have f_sb := SB.out); all_goals (try simp only [std, stdBin, stdCmp, stdUna, stdIn, ci, beq_iff_eq, bne_iff_ne, beq_eq_false_iff_ne, bne_eq_false_iff_eq, decide_eq_true_eq, decide_eq_false_iff_not, Bool.not_true, Bool.not_false, Bool.not_eq_true', Bool.not_eq_false', Bool.not_not, tn0, tn1, tn2, tn3, t3, mayD3, szF, shMayF, alF] at *); all_goals (try omega))
      all_goals (try (simp only [fwdErr_eq] at *; generalize (mayB ⟨xD, xE, xL⟩ && mayB ⟨wD, wE, wL⟩ && mayB ⟨bD, bE, bL⟩) = q at *; simp_all; done))
      all_goals (obtain ⟨n, k, m, e1, e2, e3, e4, e5, ⟨n1, n2⟩, ⟨k1, k2⟩, ⟨m1, m2⟩, l1, l2, l3, nm, sz, ⟨x1, x2, x3⟩⟩ := fwd_main (x := ⟨xD, xE, xL⟩) (w := ⟨wD, wE, wL⟩) (b := ⟨bD, bE, bL⟩) (by assumption) (by assumption) (by assumption) (by assumption) (by assumption) (by assumption) (by assumption) (by assumption); simp only at e1 e2 e3 e4 e5 l1 l2 l3 x1 x2 x3)
      · rfl
      · rfl
      · rw [hT]
        show _ = (List.range ((xD.getD 0 0).toNat * (wD.getD 0 0).toNat)).map (outL ⟨xD, xE, xL⟩ ⟨wD, wE, wL⟩ ⟨bD, bE, bL⟩)
        rw [Nat.add_zero, show i = (xD.getD 0 0).toNat by omega, mixL_all]
  (all_goals (subst hA; subst h_c; subst h_fm; subst h_ff; subst h_fd; subst h_fs; subst h_fa; subst h_fE; subst h_fR); all_goals (have f_sx := SX.out; have f_sw := SW.out; have f_sb := SB.out); all_goals (try simp only [std, stdBin, stdCmp, stdUna, stdIn, ci, beq_iff_eq, bne_iff_ne, beq_eq_false_iff_ne, bne_eq_false_iff_eq, decide_eq_true_eq, decide_eq_false_iff_not, Bool.not_true, Bool.not_false, Bool.not_eq_true', Bool.not_eq_false', Bool.not_not, tn0, tn1, tn2, tn3, t3, mayD3, szF, shMayF, alF] at *); all_goals (try omega))
  all_goals (try (simp only [fwdErr_eq] at *; generalize (mayB ⟨xD, xE, xL⟩ && mayB ⟨wD, wE, wL⟩ && mayB ⟨bD, bE, bL⟩) = q at *; simp_all; done))
  all_goals (try (have hm := exps3 ‹(mayB ⟨xD, xE, xL⟩ && mayB ⟨wD, wE, wL⟩ && mayB ⟨bD, bE, bL⟩) = true›; simp only at hm; omega))
  all_goals (obtain ⟨n, k, m, e1, e2, e3, e4, e5, ⟨n1, n2⟩, ⟨k1, k2⟩, ⟨m1, m2⟩, l1, l2, l3, nm, sz, ⟨x1, x2, x3⟩⟩ := fwd_main (x := ⟨xD, xE, xL⟩) (w := ⟨wD, wE, wL⟩) (b := ⟨bD, bE, bL⟩) (by assumption) (by assumption) (by assumption) (by assumption) (by assumption) (by assumption) (by assumption) (by assumption); simp only at e1 e2 e3 e4 e5 l1 l2 l3 x1 x2 x3)
  all_goals (rw [e1, e3, sz]; omega)
end Go.Proofs.Ytcbcfajihbbdcaa
