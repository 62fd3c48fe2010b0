/- Layer 10's counterpart: back. -/
import Derived.Test.YtcbcfajihbbdcaaDenG
namespace Go.Proofs.Ytcbcfajihbbdcaa
open Go.RowKit
set_option maxRecDepth 100000
set_option linter.unusedSimpArgs false
set_option linter.unusedVariables false
set_option maxHeartbeats 8000000
theorem room_eq (n : Int) (D : List Int) : roomF [.z n, .l D] = if fitsF [.z n] = true then (if mayD D = true then 0 else 1) else 3 := rfl
theorem dt_at (a b : Ln) {K u v Q : Nat} (hv : v < K) : dt a b K (u * K + v) Q = sumTo (prI a b (u : Int) (v : Int)) 0 Q := by
  obtain ⟨q1, q2⟩ := idx_div (i := u) hv
  unfold dt
  rw [q1, q2]
theorem in_main {g w : Tn} (hm : (mayB g && mayB w) = true) (h1 : (g.dims.length : Int) = 2) (h2 : (w.dims.length : Int) = 2) (h4 : g.dims.getD 1 0 = w.dims.getD 0 0) (h6 : fitsF [.z (w.dims.getD 0 0)] = true) (h7 : mayD [g.dims.getD 0 0, w.dims.getD 1 0] = true) :
    ∃ n m k : Nat, g.dims.getD 0 0 = n ∧ g.dims.getD 1 0 = m ∧ w.dims.getD 0 0 = m ∧ w.dims.getD 1 0 = k ∧ (1 ≤ n ∧ n ≤ 4096) ∧ (1 ≤ m ∧ m ≤ 4096) ∧ (1 ≤ k ∧ k ≤ 4096) ∧ m ≤ 959 ∧ g.data.length = n * m ∧ w.data.length = m * k ∧ n * k ≤ 8192 ∧ szD [(n : Int), (k : Int)] = ((n * k : Nat) : Int) ∧ ((-64 ≤ g.exp ∧ g.exp ≤ 64) ∧ (-64 ≤ w.exp ∧ w.exp ≤ 64)) := by
  have he := exps2 hm
  simp only [Bool.and_eq_true] at hm
  obtain ⟨n, m, a1, a2, a3, a4, a5, a6, a7, a8⟩ := mat_nat hm.1 h1
  obtain ⟨m', k, b1, b2, b3, b4, b5, b6, b7, b8⟩ := mat_nat hm.2 h2
  have hk : m = m' := by rw [a2, b1] at h4; omega
  subst hk
  have h8 := fits_le h6
  rw [a1, b2] at h7
  obtain ⟨s1, s2⟩ := mayD2_sz h7
  exact ⟨n, m, k, a1, a2, b1, b2, ⟨a3, a4⟩, ⟨a5, a6⟩, ⟨b5, b6⟩, by omega, a7, b7, s2, s1, he⟩
theorem wt_main {g w : Tn} (hm : (mayB g && mayB w) = true) (h1 : (g.dims.length : Int) = 2) (h2 : (w.dims.length : Int) = 2) (h4 : g.dims.getD 0 0 = w.dims.getD 0 0) (h6 : fitsF [.z (g.dims.getD 0 0)] = true) (h7 : mayD [g.dims.getD 1 0, w.dims.getD 1 0] = true) :
    ∃ n m k : Nat, g.dims.getD 0 0 = n ∧ g.dims.getD 1 0 = m ∧ w.dims.getD 0 0 = n ∧ w.dims.getD 1 0 = k ∧ (1 ≤ n ∧ n ≤ 4096) ∧ (1 ≤ m ∧ m ≤ 4096) ∧ (1 ≤ k ∧ k ≤ 4096) ∧ n ≤ 959 ∧ g.data.length = n * m ∧ w.data.length = n * k ∧ m * k ≤ 8192 ∧ szD [(m : Int), (k : Int)] = ((m * k : Nat) : Int) ∧ ((-64 ≤ g.exp ∧ g.exp ≤ 64) ∧ (-64 ≤ w.exp ∧ w.exp ≤ 64)) := by
  have he := exps2 hm
  simp only [Bool.and_eq_true] at hm
  obtain ⟨n, m, a1, a2, a3, a4, a5, a6, a7, a8⟩ := mat_nat hm.1 h1
  obtain ⟨m', k, b1, b2, b3, b4, b5, b6, b7, b8⟩ := mat_nat hm.2 h2
  have hk : n = m' := by rw [a1, b1] at h4; omega
  subst hk
  have h8 := fits_le h6
  rw [a2, b2] at h7
  obtain ⟨s1, s2⟩ := mayD2_sz h7
  exact ⟨n, m, k, a1, a2, b1, b2, ⟨a3, a4⟩, ⟨a5, a6⟩, ⟨b5, b6⟩, by omega, a7, b7, s2, s1, he⟩
theorem rinp_ok : CtrOk Try.prog 27 (resC [tnTy .i8, tnTy .i8] .i32 3 21 (t2 inErr 0) (t2 inRes ⟨[], 0, []⟩)) := by
  obtain ⟨G, hG⟩ : ∃ G : List (FuncId × Ctr), G = [(53, boolC [.sl (tnTy .i8)] mayAllF), (34, boolC [.int .i64] fitsF), (72, boolC [.sl (.int .i64)] shMayF), (73, intC [.sl (.int .i64)] .i64 szF)] := ⟨_, rfl⟩
  refine fn_inl (ck := true) [(54, Try.f54), (69, Try.f69)] ⟨⟨Try.func54, by unfold FnOk; kernel_rfl, by kernel_rfl⟩, ⟨Try.func69, by unfold FnOk; kernel_rfl, by kernel_rfl⟩, trivial⟩ Try.func27 rfl tt_ok (G := G) (by rw [hG]; exact ⟨⟨rtmay_ok, by unfold FnOk; kernel_rfl⟩, ⟨rfits_ok, by unfold FnOk; kernel_rfl⟩, ⟨rmay_ok, by unfold FnOk; kernel_rfl⟩, ⟨rsize_ok, by unfold FnOk; kernel_rfl⟩, trivial⟩) mixed (by kernel_rfl) ?_
  intro xa xs h hx hp
  obtain ⟨a0, as0, x0, xs0, rfl, rfl, h0, H1⟩ := svArgs_cons h
  obtain ⟨a1, as1, x1, xs1, rfl, rfl, h1, H2⟩ := svArgs_cons H1
  obtain ⟨rfl, rfl⟩ := svArgs_nil H2
  obtain ⟨⟨gD, gE, gL⟩, rfl, rfl⟩ := argSV_tn h0
  obtain ⟨⟨wD, wE, wL⟩, rfl, rfl⟩ := argSV_tn h1
  have sg : (Fits .i64 gD ∧ ci gD.length ≤ 9223372036854775807) ∧ (-9223372036854775808 ≤ gE ∧ gE ≤ 9223372036854775807) ∧ Fits .i8 gL ∧ ci gL.length ≤ 9223372036854775807 := svf_tn (hx (Tn.sv .i8 ⟨gD, gE, gL⟩) (by simp))
  have sw : (Fits .i64 wD ∧ ci wD.length ≤ 9223372036854775807) ∧ (-9223372036854775808 ≤ wE ∧ wE ≤ 9223372036854775807) ∧ Fits .i8 wL ∧ ci wL.length ≤ 9223372036854775807 := svf_tn (hx (Tn.sv .i8 ⟨wD, wE, wL⟩) (by simp))
  have SG := Lib.hid sg
  clear sg
  have SW := Lib.hid sw
  clear sw
  clear hx hp h h0 H1 h1 H2
  generalize hA : std = A
  subst hG
  generalize h_c : ci = c
  generalize h_fm : mayAllF = fm
  generalize h_ff : fitsF = ff
  generalize h_fd : shMayF = fd
  generalize h_fs : szF = fs
  generalize h_fE : t2 inErr 0 = fE
  generalize h_fR : t2 inRes ⟨[], 0, []⟩ = fR
  obtain ⟨T, hT⟩ : ∃ T : Nat → Nat → List Int, ∀ u v, T u v = mixL (fun _ => 0) (fun z => dt (rowsR ⟨gD, gE, gL⟩) (colsR ⟨wD, wE, wL⟩) (wD.getD 1 0).toNat z (gD.getD 1 0).toNat) ((gD.getD 0 0).toNat * (wD.getD 1 0).toNat) (u * (wD.getD 1 0).toNat + v) := ⟨_, fun _ _ => rfl⟩
  obtain ⟨V, hV⟩ : ∃ V : Nat → Nat → Nat → Int, ∀ u v z, V u v z = sumTo (prI (rowsR ⟨gD, gE, gL⟩) (colsR ⟨wD, wE, wL⟩) (ci u) (ci v)) 0 z := ⟨_, fun _ _ _ => rfl⟩
  cbv
  (repeat' (first | apply And.intro | apply BrB.mk | apply BrP.mk | intro _))
  (all_goals try (exfalso; (subst hA; subst h_c; subst h_fm; subst h_ff; subst h_fd; subst h_fs; subst h_fE; subst h_fR); (try simp only [std, stdBin, stdCmp, stdUna, stdIn, ci, beq_iff_eq, bne_iff_ne, beq_eq_false_iff_ne, bne_eq_false_iff_eq, decide_eq_true_eq, decide_eq_false_iff_not, Bool.not_true, Bool.not_false, Bool.not_eq_true', Bool.not_eq_false', Bool.not_not, tn0, tn1, tn2, tn3] at *); first | omega | contradiction))
  all_goals try (refine loop_at Nat 73 (fun x => [(11, .any), (12, .any), (13, .any), (14, .any), (73, .v (.int .i64 (c x)))]) (fun x o => o.set 7 (.irow 21 .i32 (T x 0))) (fun x => ci x ≤ gD.getD 0 0) (fun x => (gD.getD 0 0 - ci x).toNat) 0 ?h0 ?hle ?round)
  case h0 =>
    (all_goals (subst hA; subst h_c; subst h_fm; subst h_ff; subst h_fd; subst h_fs; subst h_fE; subst h_fR); all_goals (have f_sg := SG.out; have f_sw := SW.out); all_goals (try simp only [std, stdBin, stdCmp, stdUna, stdIn, ci, beq_iff_eq, bne_iff_ne, beq_eq_false_iff_ne, bne_eq_false_iff_eq, decide_eq_true_eq, decide_eq_false_iff_not, Bool.not_true, Bool.not_false, Bool.not_eq_true', Bool.not_eq_false', Bool.not_not, tn0, tn1, tn2, tn3, t1, t2, mayD1, mayD2, szF, shMayF] at *); all_goals (try omega))
    all_goals (obtain ⟨n, m, k, e1, e2, e3, e4, ⟨n1, n2⟩, ⟨m1, m2⟩, ⟨k1, k2⟩, q0, l1, l2, nm, sz, ⟨x1, x2⟩⟩ := in_main (g := ⟨gD, gE, gL⟩) (w := ⟨wD, wE, wL⟩) (by assumption) (by assumption) (by assumption) (by assumption) (by assumption) (by assumption); simp only at e1 e2 e3 e4 l1 l2 x1 x2)
    omega
  case hle =>
    cbv
    (repeat' (first | apply And.intro | apply BrB.mk | apply BrP.mk | intro _))
    (all_goals (subst hA; subst h_c; subst h_fm; subst h_ff; subst h_fd; subst h_fs; subst h_fE; subst h_fR); all_goals (have f_sg := SG.out; have f_sw := SW.out); all_goals (try simp only [std, stdBin, stdCmp, stdUna, stdIn, ci, beq_iff_eq, bne_iff_ne, beq_eq_false_iff_ne, bne_eq_false_iff_eq, decide_eq_true_eq, decide_eq_false_iff_not, Bool.not_true, Bool.not_false, Bool.not_eq_true', Bool.not_eq_false', Bool.not_not, tn0, tn1, tn2, tn3, t1, t2, mayD1, mayD2, szF, shMayF] at *); all_goals (try omega))
    all_goals first | exact True.intro | rfl | skip
    all_goals (obtain ⟨n, m, k, e1, e2, e3, e4, ⟨n1, n2⟩, ⟨m1, m2⟩, ⟨k1, k2⟩, q0, l1, l2, nm, sz, ⟨x1, x2⟩⟩ := in_main (g := ⟨gD, gE, gL⟩) (w := ⟨wD, wE, wL⟩) (by assumption) (by assumption) (by assumption) (by assumption) (by assumption) (by assumption); simp only at e1 e2 e3 e4 l1 l2 x1 x2)
    rw [hT, e1, e4, sz, Nat.zero_mul, Int.toNat_natCast, Int.toNat_natCast, Int.toNat_natCast, mixL_nil]
  case round =>
    intro u hu
    cbv
    refine BrB.mk (fun gi => ?yi) (fun gi => ?ni)
    case yi =>
      refine loop_at Nat 77 (fun x => [(12, .any), (13, .any), (14, .any), (77, .v (.int .i64 (c x)))]) (fun x o => o.set 7 (.irow 21 .i32 (T u x))) (fun x => ci x ≤ wD.getD 1 0) (fun x => (wD.getD 1 0 - ci x).toNat) 0 ?h0 ?hle ?round
      case h0 =>
        (all_goals (subst hA; subst h_c; subst h_fm; subst h_ff; subst h_fd; subst h_fs; subst h_fE; subst h_fR); all_goals (have f_sg := SG.out; have f_sw := SW.out); all_goals (try simp only [std, stdBin, stdCmp, stdUna, stdIn, ci, beq_iff_eq, bne_iff_ne, beq_eq_false_iff_ne, bne_eq_false_iff_eq, decide_eq_true_eq, decide_eq_false_iff_not, Bool.not_true, Bool.not_false, Bool.not_eq_true', Bool.not_eq_false', Bool.not_not, tn0, tn1, tn2, tn3, t1, t2, mayD1, mayD2, szF, shMayF] at *); all_goals (try omega))
        all_goals (obtain ⟨n, m, k, e1, e2, e3, e4, ⟨n1, n2⟩, ⟨m1, m2⟩, ⟨k1, k2⟩, q0, l1, l2, nm, sz, ⟨x1, x2⟩⟩ := in_main (g := ⟨gD, gE, gL⟩) (w := ⟨wD, wE, wL⟩) (by assumption) (by assumption) (by assumption) (by assumption) (by assumption) (by assumption); simp only at e1 e2 e3 e4 l1 l2 x1 x2)
        omega
      case hle =>
        cbv
        (repeat' (first | apply And.intro | apply BrB.mk | apply BrP.mk | intro _))
        (all_goals (subst hA; subst h_c; subst h_fm; subst h_ff; subst h_fd; subst h_fs; subst h_fE; subst h_fR); all_goals (have f_sg := SG.out; have f_sw := SW.out); all_goals (try simp only [std, stdBin, stdCmp, stdUna, stdIn, ci, beq_iff_eq, bne_iff_ne, beq_eq_false_iff_ne, bne_eq_false_iff_eq, decide_eq_true_eq, decide_eq_false_iff_not, Bool.not_true, Bool.not_false, Bool.not_eq_true', Bool.not_eq_false', Bool.not_not, tn0, tn1, tn2, tn3, t1, t2, mayD1, mayD2, szF, shMayF] at *); all_goals (try omega))
        all_goals first | exact True.intro | rfl | skip
      case round =>
        intro v hv
        cbv
        refine BrB.mk (fun go => ?yo) (fun go => ?no)
        case yo =>
          (repeat' (first | apply And.intro | apply BrB.mk | apply BrP.mk | intro _))
          all_goals try (refine loop_at Nat 81 (fun x => [(13, .v (.int .i64 (V u v x))), (14, .any), (81, .v (.int .i64 (c x)))]) (fun _ o => o) (fun x => ci x ≤ wD.getD 0 0) (fun x => (wD.getD 0 0 - ci x).toNat) 0 ?h0 ?hle ?round)
          case h0 =>
            (all_goals (subst hA; subst h_c; subst h_fm; subst h_ff; subst h_fd; subst h_fs; subst h_fE; subst h_fR); all_goals (have f_sg := SG.out; have f_sw := SW.out); all_goals (try simp only [std, stdBin, stdCmp, stdUna, stdIn, ci, beq_iff_eq, bne_iff_ne, beq_eq_false_iff_ne, bne_eq_false_iff_eq, decide_eq_true_eq, decide_eq_false_iff_not, Bool.not_true, Bool.not_false, Bool.not_eq_true', Bool.not_eq_false', Bool.not_not, tn0, tn1, tn2, tn3, t1, t2, mayD1, mayD2, szF, shMayF] at *); all_goals (try omega))
            all_goals (obtain ⟨n, m, k, e1, e2, e3, e4, ⟨n1, n2⟩, ⟨m1, m2⟩, ⟨k1, k2⟩, q0, l1, l2, nm, sz, ⟨x1, x2⟩⟩ := in_main (g := ⟨gD, gE, gL⟩) (w := ⟨wD, wE, wL⟩) (by assumption) (by assumption) (by assumption) (by assumption) (by assumption) (by assumption); simp only at e1 e2 e3 e4 l1 l2 x1 x2)
            omega
          case hle =>
            cbv
            (repeat' (first | apply And.intro | apply BrB.mk | apply BrP.mk | intro _))
            (all_goals (subst hA; subst h_c; subst h_fm; subst h_ff; subst h_fd; subst h_fs; subst h_fE; subst h_fR); all_goals (have f_sg := SG.out; have f_sw := SW.out); all_goals (try simp only [std, stdBin, stdCmp, stdUna, stdIn, ci, beq_iff_eq, bne_iff_ne, beq_eq_false_iff_ne, bne_eq_false_iff_eq, decide_eq_true_eq, decide_eq_false_iff_not, Bool.not_true, Bool.not_false, Bool.not_eq_true', Bool.not_eq_false', Bool.not_not, tn0, tn1, tn2, tn3, t1, t2, mayD1, mayD2, szF, shMayF] at *); all_goals (try omega))
            all_goals first | exact True.intro | rfl | skip
            rw [hV, sumTo]
          case round =>
            intro z hz
            cbv
            refine BrB.mk (fun gj => ?yj) (fun gj => ?nj)
            case yj =>
              (repeat' (first | apply And.intro | apply BrB.mk | apply BrP.mk | intro _))
              all_goals try (refine ⟨z + 1, ?jI, ?jL, ?jM⟩)
              case jL =>
                cbv
                (repeat' (first | apply And.intro | apply BrB.mk | apply BrP.mk | intro _))
                (all_goals (subst hA; subst h_c; subst h_fm; subst h_ff; subst h_fd; subst h_fs; subst h_fE; subst h_fR); all_goals (have f_sg := SG.out; have f_sw := SW.out); all_goals (try simp only [std, stdBin, stdCmp, stdUna, stdIn, ci, beq_iff_eq, bne_iff_ne, beq_eq_false_iff_ne, bne_eq_false_iff_eq, decide_eq_true_eq, decide_eq_false_iff_not, Bool.not_true, Bool.not_false, Bool.not_eq_true', Bool.not_eq_false', Bool.not_not, tn0, tn1, tn2, tn3, t1, t2, mayD1, mayD2, szF, shMayF] at *); all_goals (try omega))
                all_goals first | exact True.intro | rfl | skip
                all_goals (obtain ⟨n, m, k, e1, e2, e3, e4, ⟨n1, n2⟩, ⟨m1, m2⟩, ⟨k1, k2⟩, q0, l1, l2, nm, sz, ⟨x1, x2⟩⟩ := in_main (g := ⟨gD, gE, gL⟩) (w := ⟨wD, wE, wL⟩) (by assumption) (by assumption) (by assumption) (by assumption) (by assumption) (by assumption); simp only at e1 e2 e3 e4 l1 l2 x1 x2)
                refine congrArg _ ?_
                rw [hV, hV, sumTo, prI_nat (rowsR ⟨gD, gE, gL⟩) (colsR ⟨wD, wE, wL⟩) u v z m 1 1 k e2 rfl rfl e4, e3, e4, ← Int.natCast_mul, ← Int.natCast_add, ← Int.natCast_mul, ← Int.natCast_add, Int.toNat_natCast, Int.toNat_natCast, Nat.mul_one, Nat.mul_one, Nat.add_comm v]
                rfl
              (all_goals (subst hA; subst h_c; subst h_fm; subst h_ff; subst h_fd; subst h_fs; subst h_fE; subst h_fR); all_goals (have f_sg := SG.out; have f_sw := SW.out); all_goals (try simp only [std, stdBin, stdCmp, stdUna, stdIn, ci, beq_iff_eq, bne_iff_ne, beq_eq_false_iff_ne, bne_eq_false_iff_eq, decide_eq_true_eq, decide_eq_false_iff_not, Bool.not_true, Bool.not_false, Bool.not_eq_true', Bool.not_eq_false', Bool.not_not, tn0, tn1, tn2, tn3, t1, t2, mayD1, mayD2, szF, shMayF] at *); all_goals (try omega))
              all_goals (obtain ⟨n, m, k, e1, e2, e3, e4, ⟨n1, n2⟩, ⟨m1, m2⟩, ⟨k1, k2⟩, q0, l1, l2, nm, sz, ⟨x1, x2⟩⟩ := in_main (g := ⟨gD, gE, gL⟩) (w := ⟨wD, wE, wL⟩) (by assumption) (by assumption) (by assumption) (by assumption) (by assumption) (by assumption); simp only at e1 e2 e3 e4 l1 l2 x1 x2)
              all_goals (have q1 := idx_lt (i := u) (n := n) (j := z) (k := m) (by omega) (by omega))
              all_goals (have q2 := idx_lt (i := z) (n := m) (j := v) (k := k) (by omega) (by omega))
              all_goals (have a1 := fits8 f_sg.2.2.1 (u * m + z); have a2 := fits8 f_sw.2.2.1 (z * k + v))
              all_goals (have a3 := mulAbs (A := 128) (B := 128) a1.1 (by omega) a2.1 (by omega))
              all_goals (have a5 := sumTo_in _ 0 (prI_in (a := rowsR ⟨gD, gE, gL⟩) (b := colsR ⟨wD, wE, wL⟩) f_sg.2.2.1 f_sw.2.2.1 (u : Int) (v : Int)) z)
              all_goals (try simp only [e1, e2, e3, e4, hV, ← Int.natCast_mul, ← Int.natCast_add, Int.toNat_natCast])
              all_goals omega
            case nj =>
              (repeat' (first | apply And.intro | apply BrB.mk | apply BrP.mk | intro _))
              all_goals try (refine ⟨v + 1, ?oI, ?oL, ?oM⟩)
              case oL =>
                cbv
                (repeat' (first | apply And.intro | apply BrB.mk | apply BrP.mk | intro _))
                (all_goals (subst hA; subst h_c; subst h_fm; subst h_ff; subst h_fd; subst h_fs; subst h_fE; subst h_fR); all_goals (have f_sg := SG.out; have f_sw := SW.out); all_goals (try simp only [std, stdBin, stdCmp, stdUna, stdIn, ci, beq_iff_eq, bne_iff_ne, beq_eq_false_iff_ne, bne_eq_false_iff_eq, decide_eq_true_eq, decide_eq_false_iff_not, Bool.not_true, Bool.not_false, Bool.not_eq_true', Bool.not_eq_false', Bool.not_not, tn0, tn1, tn2, tn3, t1, t2, mayD1, mayD2, szF, shMayF] at *); all_goals (try omega))
                all_goals first | exact True.intro | rfl | skip
                all_goals (obtain ⟨n, m, k, e1, e2, e3, e4, ⟨n1, n2⟩, ⟨m1, m2⟩, ⟨k1, k2⟩, q0, l1, l2, nm, sz, ⟨x1, x2⟩⟩ := in_main (g := ⟨gD, gE, gL⟩) (w := ⟨wD, wE, wL⟩) (by assumption) (by assumption) (by assumption) (by assumption) (by assumption) (by assumption); simp only at e1 e2 e3 e4 l1 l2 x1 x2)
                have a5 := sumTo_in _ 0 (prI_in (a := rowsR ⟨gD, gE, gL⟩) (b := colsR ⟨wD, wE, wL⟩) f_sg.2.2.1 f_sw.2.2.1 (u : Int) (v : Int)) m
                rw [hT, hT, hV, e1, e4, e2, show z = m by omega]
                simp only [← Int.natCast_mul, ← Int.natCast_add, Int.toNat_natCast]
                refine mixL_store (idx_lt (by omega) (by omega)) ?_
                rw [dt_at _ _ (u := u) (by omega), w32 (by omega) (by omega)]
              (all_goals (subst hA; subst h_c; subst h_fm; subst h_ff; subst h_fd; subst h_fs; subst h_fE; subst h_fR); all_goals (have f_sg := SG.out; have f_sw := SW.out); all_goals (try simp only [std, stdBin, stdCmp, stdUna, stdIn, ci, beq_iff_eq, bne_iff_ne, beq_eq_false_iff_ne, bne_eq_false_iff_eq, decide_eq_true_eq, decide_eq_false_iff_not, Bool.not_true, Bool.not_false, Bool.not_eq_true', Bool.not_eq_false', Bool.not_not, tn0, tn1, tn2, tn3, t1, t2, mayD1, mayD2, szF, shMayF] at *); all_goals (try omega))
              all_goals (obtain ⟨n, m, k, e1, e2, e3, e4, ⟨n1, n2⟩, ⟨m1, m2⟩, ⟨k1, k2⟩, q0, l1, l2, nm, sz, ⟨x1, x2⟩⟩ := in_main (g := ⟨gD, gE, gL⟩) (w := ⟨wD, wE, wL⟩) (by assumption) (by assumption) (by assumption) (by assumption) (by assumption) (by assumption); simp only at e1 e2 e3 e4 l1 l2 x1 x2)
              all_goals (have q1 := idx_lt (i := u) (n := n) (j := v) (k := k) (by omega) (by omega))
              all_goals (try simp only [e1, e4, hT, mixL_len, ← Int.natCast_mul, ← Int.natCast_add, Int.toNat_natCast])
              all_goals omega
          (all_goals (subst hA; subst h_c; subst h_fm; subst h_ff; subst h_fd; subst h_fs; subst h_fE; subst h_fR); all_goals (have f_sg := SG.out; have f_sw := SW.out); all_goals (try simp only [std, stdBin, stdCmp, stdUna, stdIn, ci, beq_iff_eq, bne_iff_ne, beq_eq_false_iff_ne, bne_eq_false_iff_eq, decide_eq_true_eq, decide_eq_false_iff_not, Bool.not_true, Bool.not_false, Bool.not_eq_true', Bool.not_eq_false', Bool.not_not, tn0, tn1, tn2, tn3, t1, t2, mayD1, mayD2, szF, shMayF] at *); all_goals (try omega))
          all_goals (obtain ⟨n, m, k, e1, e2, e3, e4, ⟨n1, n2⟩, ⟨m1, m2⟩, ⟨k1, k2⟩, q0, l1, l2, nm, sz, ⟨x1, x2⟩⟩ := in_main (g := ⟨gD, gE, gL⟩) (w := ⟨wD, wE, wL⟩) (by assumption) (by assumption) (by assumption) (by assumption) (by assumption) (by assumption); simp only at e1 e2 e3 e4 l1 l2 x1 x2)
          all_goals omega
        case no =>
          (repeat' (first | apply And.intro | apply BrB.mk | apply BrP.mk | intro _))
          all_goals try (refine ⟨u + 1, ?iI, ?iL, ?iM⟩)
          case iL =>
            cbv
            (repeat' (first | apply And.intro | apply BrB.mk | apply BrP.mk | intro _))
            (all_goals (subst hA; subst h_c; subst h_fm; subst h_ff; subst h_fd; subst h_fs; subst h_fE; subst h_fR); all_goals (have f_sg := SG.out; have f_sw := SW.out); all_goals (try simp only [std, stdBin, stdCmp, stdUna, stdIn, ci, beq_iff_eq, bne_iff_ne, beq_eq_false_iff_ne, bne_eq_false_iff_eq, decide_eq_true_eq, decide_eq_false_iff_not, Bool.not_true, Bool.not_false, Bool.not_eq_true', Bool.not_eq_false', Bool.not_not, tn0, tn1, tn2, tn3, t1, t2, mayD1, mayD2, szF, shMayF] at *); all_goals (try omega))
            all_goals first | exact True.intro | rfl | skip
            all_goals (obtain ⟨n, m, k, e1, e2, e3, e4, ⟨n1, n2⟩, ⟨m1, m2⟩, ⟨k1, k2⟩, q0, l1, l2, nm, sz, ⟨x1, x2⟩⟩ := in_main (g := ⟨gD, gE, gL⟩) (w := ⟨wD, wE, wL⟩) (by assumption) (by assumption) (by assumption) (by assumption) (by assumption) (by assumption); simp only at e1 e2 e3 e4 l1 l2 x1 x2)
            rw [hT, hT, e4, Int.toNat_natCast, show v = k by omega, Nat.add_zero]
            show _ = mixL _ _ _ ((u + 1) * k)
            rw [Nat.add_mul, Nat.one_mul]
          (all_goals (subst hA; subst h_c; subst h_fm; subst h_ff; subst h_fd; subst h_fs; subst h_fE; subst h_fR); all_goals (have f_sg := SG.out; have f_sw := SW.out); all_goals (try simp only [std, stdBin, stdCmp, stdUna, stdIn, ci, beq_iff_eq, bne_iff_ne, beq_eq_false_iff_ne, bne_eq_false_iff_eq, decide_eq_true_eq, decide_eq_false_iff_not, Bool.not_true, Bool.not_false, Bool.not_eq_true', Bool.not_eq_false', Bool.not_not, tn0, tn1, tn2, tn3, t1, t2, mayD1, mayD2, szF, shMayF] at *); all_goals (try omega))
          all_goals (obtain ⟨n, m, k, e1, e2, e3, e4, ⟨n1, n2⟩, ⟨m1, m2⟩, ⟨k1, k2⟩, q0, l1, l2, nm, sz, ⟨x1, x2⟩⟩ := in_main (g := ⟨gD, gE, gL⟩) (w := ⟨wD, wE, wL⟩) (by assumption) (by assumption) (by assumption) (by assumption) (by assumption) (by assumption); simp only at e1 e2 e3 e4 l1 l2 x1 x2)
          all_goals omega
    case ni =>
      (repeat' (first | apply And.intro | apply BrB.mk | apply BrP.mk | intro _))
      (all_goals (subst hA; subst h_c; subst h_fm; subst h_ff; subst h_fd; subst h_fs; subst h_fE; subst h_fR); all_goals (have f_sg := SG.out; have f_sw := SW.out); all_goals (try simp only [std, stdBin, stdCmp, stdUna, stdIn, ci, beq_iff_eq, bne_iff_ne, beq_eq_false_iff_ne, bne_eq_false_iff_eq, decide_eq_true_eq, decide_eq_false_iff_not, Bool.not_true, Bool.not_false, Bool.not_eq_true', Bool.not_eq_false', Bool.not_not, tn0, tn1, tn2, tn3, t1, t2, mayD1, mayD2, szF, shMayF] at *); all_goals (try omega))
      all_goals (try (simp only [inErr, inCnd, room_eq] at *; generalize (mayB ⟨gD, gE, gL⟩ && mayB ⟨wD, wE, wL⟩) = q at *; simp_all; done))
      all_goals (obtain ⟨n, m, k, e1, e2, e3, e4, ⟨n1, n2⟩, ⟨m1, m2⟩, ⟨k1, k2⟩, q0, l1, l2, nm, sz, ⟨x1, x2⟩⟩ := in_main (g := ⟨gD, gE, gL⟩) (w := ⟨wD, wE, wL⟩) (by assumption) (by assumption) (by assumption) (by assumption) (by assumption) (by assumption); simp only at e1 e2 e3 e4 l1 l2 x1 x2)
      · rfl
      · rfl
      · rw [hT]
        show _ = (List.range ((gD.getD 0 0).toNat * (wD.getD 1 0).toNat)).map _
        rw [Nat.add_zero, show u = (gD.getD 0 0).toNat by omega, mixL_all]
        rfl
  (all_goals (subst hA; subst h_c; subst h_fm; subst h_ff; subst h_fd; subst h_fs; subst h_fE; subst h_fR); all_goals (have f_sg := SG.out; have f_sw := SW.out); all_goals (try simp only [std, stdBin, stdCmp, stdUna, stdIn, ci, beq_iff_eq, bne_iff_ne, beq_eq_false_iff_ne, bne_eq_false_iff_eq, decide_eq_true_eq, decide_eq_false_iff_not, Bool.not_true, Bool.not_false, Bool.not_eq_true', Bool.not_eq_false', Bool.not_not, tn0, tn1, tn2, tn3, t1, t2, mayD1, mayD2, szF, shMayF] at *); all_goals (try omega))
  all_goals (try (simp only [inErr, inCnd, room_eq] at *; generalize (mayB ⟨gD, gE, gL⟩ && mayB ⟨wD, wE, wL⟩) = q at *; simp_all; done))
  all_goals (try (have hm := exps2 ‹(mayB ⟨gD, gE, gL⟩ && mayB ⟨wD, wE, wL⟩) = true›; simp only at hm; omega))
  all_goals (obtain ⟨n, m, k, e1, e2, e3, e4, ⟨n1, n2⟩, ⟨m1, m2⟩, ⟨k1, k2⟩, q0, l1, l2, nm, sz, ⟨x1, x2⟩⟩ := in_main (g := ⟨gD, gE, gL⟩) (w := ⟨wD, wE, wL⟩) (by assumption) (by assumption) (by assumption) (by assumption) (by assumption) (by assumption); simp only at e1 e2 e3 e4 l1 l2 x1 x2)
  all_goals (rw [e1, e4, sz]; omega)
theorem rwgt_ok : CtrOk Try.prog 29 (resC [tnTy .i8, tnTy .i8] .i32 3 21 (t2 wtErr 0) (t2 wtRes ⟨[], 0, []⟩)) := by
  obtain ⟨G, hG⟩ : ∃ G : List (FuncId × Ctr), G = [(53, boolC [.sl (tnTy .i8)] mayAllF), (34, boolC [.int .i64] fitsF), (72, boolC [.sl (.int .i64)] shMayF), (73, intC [.sl (.int .i64)] .i64 szF)] := ⟨_, rfl⟩
  refine fn_inl (ck := true) [(54, Try.f54), (69, Try.f69)] ⟨⟨Try.func54, by unfold FnOk; kernel_rfl, by kernel_rfl⟩, ⟨Try.func69, by unfold FnOk; kernel_rfl, by kernel_rfl⟩, trivial⟩ Try.func29 rfl tt_ok (G := G) (by rw [hG]; exact ⟨⟨rtmay_ok, by unfold FnOk; kernel_rfl⟩, ⟨rfits_ok, by unfold FnOk; kernel_rfl⟩, ⟨rmay_ok, by unfold FnOk; kernel_rfl⟩, ⟨rsize_ok, by unfold FnOk; kernel_rfl⟩, trivial⟩) mixed (by kernel_rfl) ?_
  intro xa xs h hx hp
  obtain ⟨a0, as0, x0, xs0, rfl, rfl, h0, H1⟩ := svArgs_cons h
  obtain ⟨a1, as1, x1, xs1, rfl, rfl, h1, H2⟩ := svArgs_cons H1
  obtain ⟨rfl, rfl⟩ := svArgs_nil H2
  obtain ⟨⟨gD, gE, gL⟩, rfl, rfl⟩ := argSV_tn h0
  obtain ⟨⟨wD, wE, wL⟩, rfl, rfl⟩ := argSV_tn h1
  have sg : (Fits .i64 gD ∧ ci gD.length ≤ 9223372036854775807) ∧ (-9223372036854775808 ≤ gE ∧ gE ≤ 9223372036854775807) ∧ Fits .i8 gL ∧ ci gL.length ≤ 9223372036854775807 := svf_tn (hx (Tn.sv .i8 ⟨gD, gE, gL⟩) (by simp))
  have sw : (Fits .i64 wD ∧ ci wD.length ≤ 9223372036854775807) ∧ (-9223372036854775808 ≤ wE ∧ wE ≤ 9223372036854775807) ∧ Fits .i8 wL ∧ ci wL.length ≤ 9223372036854775807 := svf_tn (hx (Tn.sv .i8 ⟨wD, wE, wL⟩) (by simp))
  have SG := Lib.hid sg
  clear sg
  have SW := Lib.hid sw
  clear sw
  clear hx hp h h0 H1 h1 H2
  generalize hA : std = A
  subst hG
  generalize h_c : ci = c
  generalize h_fm : mayAllF = fm
  generalize h_ff : fitsF = ff
  generalize h_fd : shMayF = fd
  generalize h_fs : szF = fs
  generalize h_fE : t2 wtErr 0 = fE
  generalize h_fR : t2 wtRes ⟨[], 0, []⟩ = fR
  obtain ⟨T, hT⟩ : ∃ T : Nat → Nat → List Int, ∀ u v, T u v = mixL (fun _ => 0) (fun z => dt (colsR ⟨gD, gE, gL⟩) (colsR ⟨wD, wE, wL⟩) (wD.getD 1 0).toNat z (gD.getD 0 0).toNat) ((gD.getD 1 0).toNat * (wD.getD 1 0).toNat) (u * (wD.getD 1 0).toNat + v) := ⟨_, fun _ _ => rfl⟩
  obtain ⟨V, hV⟩ : ∃ V : Nat → Nat → Nat → Int, ∀ u v z, V u v z = sumTo (prI (colsR ⟨gD, gE, gL⟩) (colsR ⟨wD, wE, wL⟩) (ci u) (ci v)) 0 z := ⟨_, fun _ _ _ => rfl⟩
  cbv
  (repeat' (first | apply And.intro | apply BrB.mk | apply BrP.mk | intro _))
  (all_goals try (exfalso; (subst hA; subst h_c; subst h_fm; subst h_ff; subst h_fd; subst h_fs; subst h_fE; subst h_fR); (try simp only [std, stdBin, stdCmp, stdUna, stdIn, ci, beq_iff_eq, bne_iff_ne, beq_eq_false_iff_ne, bne_eq_false_iff_eq, decide_eq_true_eq, decide_eq_false_iff_not, Bool.not_true, Bool.not_false, Bool.not_eq_true', Bool.not_eq_false', Bool.not_not, tn0, tn1, tn2, tn3] at *); first | omega | contradiction))
  all_goals try (refine loop_at Nat 73 (fun x => [(11, .any), (12, .any), (13, .any), (14, .any), (73, .v (.int .i64 (c x)))]) (fun x o => o.set 7 (.irow 21 .i32 (T x 0))) (fun x => ci x ≤ gD.getD 1 0) (fun x => (gD.getD 1 0 - ci x).toNat) 0 ?h0 ?hle ?round)
  case h0 =>
    (all_goals (subst hA; subst h_c; subst h_fm; subst h_ff; subst h_fd; subst h_fs; subst h_fE; subst h_fR); all_goals (have f_sg := SG.out; have f_sw := SW.out); all_goals (try simp only [std, stdBin, stdCmp, stdUna, stdIn, ci, beq_iff_eq, bne_iff_ne, beq_eq_false_iff_ne, bne_eq_false_iff_eq, decide_eq_true_eq, decide_eq_false_iff_not, Bool.not_true, Bool.not_false, Bool.not_eq_true', Bool.not_eq_false', Bool.not_not, tn0, tn1, tn2, tn3, t1, t2, mayD1, mayD2, szF, shMayF] at *); all_goals (try omega))
    all_goals (obtain ⟨n, m, k, e1, e2, e3, e4, ⟨n1, n2⟩, ⟨m1, m2⟩, ⟨k1, k2⟩, q0, l1, l2, nm, sz, ⟨x1, x2⟩⟩ := wt_main (g := ⟨gD, gE, gL⟩) (w := ⟨wD, wE, wL⟩) (by assumption) (by assumption) (by assumption) (by assumption) (by assumption) (by assumption); simp only at e1 e2 e3 e4 l1 l2 x1 x2)
    omega
  case hle =>
    cbv
    (repeat' (first | apply And.intro | apply BrB.mk | apply BrP.mk | intro _))
    (all_goals (subst hA; subst h_c; subst h_fm; subst h_ff; subst h_fd; subst h_fs; subst h_fE; subst h_fR); all_goals (have f_sg := SG.out; have f_sw := SW.out); all_goals (try simp only [std, stdBin, stdCmp, stdUna, stdIn, ci, beq_iff_eq, bne_iff_ne, beq_eq_false_iff_ne, bne_eq_false_iff_eq, decide_eq_true_eq, decide_eq_false_iff_not, Bool.not_true, Bool.not_false, Bool.not_eq_true', Bool.not_eq_false', Bool.not_not, tn0, tn1, tn2, tn3, t1, t2, mayD1, mayD2, szF, shMayF] at *); all_goals (try omega))
    all_goals first | exact True.intro | rfl | skip
    all_goals (obtain ⟨n, m, k, e1, e2, e3, e4, ⟨n1, n2⟩, ⟨m1, m2⟩, ⟨k1, k2⟩, q0, l1, l2, nm, sz, ⟨x1, x2⟩⟩ := wt_main (g := ⟨gD, gE, gL⟩) (w := ⟨wD, wE, wL⟩) (by assumption) (by assumption) (by assumption) (by assumption) (by assumption) (by assumption); simp only at e1 e2 e3 e4 l1 l2 x1 x2)
    rw [hT, e2, e4, sz, Nat.zero_mul, Int.toNat_natCast, Int.toNat_natCast, Int.toNat_natCast, mixL_nil]
  case round =>
    intro u hu
    cbv
    refine BrB.mk (fun gi => ?yi) (fun gi => ?ni)
    case yi =>
      refine loop_at Nat 77 (fun x => [(12, .any), (13, .any), (14, .any), (77, .v (.int .i64 (c x)))]) (fun x o => o.set 7 (.irow 21 .i32 (T u x))) (fun x => ci x ≤ wD.getD 1 0) (fun x => (wD.getD 1 0 - ci x).toNat) 0 ?h0 ?hle ?round
      case h0 =>
        (all_goals (subst hA; subst h_c; subst h_fm; subst h_ff; subst h_fd; subst h_fs; subst h_fE; subst h_fR); all_goals (have f_sg := SG.out; have f_sw := SW.out); all_goals (try simp only [std, stdBin, stdCmp, stdUna, stdIn, ci, beq_iff_eq, bne_iff_ne, beq_eq_false_iff_ne, bne_eq_false_iff_eq, decide_eq_true_eq, decide_eq_false_iff_not, Bool.not_true, Bool.not_false, Bool.not_eq_true', Bool.not_eq_false', Bool.not_not, tn0, tn1, tn2, tn3, t1, t2, mayD1, mayD2, szF, shMayF] at *); all_goals (try omega))
        all_goals (obtain ⟨n, m, k, e1, e2, e3, e4, ⟨n1, n2⟩, ⟨m1, m2⟩, ⟨k1, k2⟩, q0, l1, l2, nm, sz, ⟨x1, x2⟩⟩ := wt_main (g := ⟨gD, gE, gL⟩) (w := ⟨wD, wE, wL⟩) (by assumption) (by assumption) (by assumption) (by assumption) (by assumption) (by assumption); simp only at e1 e2 e3 e4 l1 l2 x1 x2)
        omega
      case hle =>
        cbv
        (repeat' (first | apply And.intro | apply BrB.mk | apply BrP.mk | intro _))
        (all_goals (subst hA; subst h_c; subst h_fm; subst h_ff; subst h_fd; subst h_fs; subst h_fE; subst h_fR); all_goals (have f_sg := SG.out; have f_sw := SW.out); all_goals (try simp only [std, stdBin, stdCmp, stdUna, stdIn, ci, beq_iff_eq, bne_iff_ne, beq_eq_false_iff_ne, bne_eq_false_iff_eq, decide_eq_true_eq, decide_eq_false_iff_not, Bool.not_true, Bool.not_false, Bool.not_eq_true', Bool.not_eq_false', Bool.not_not, tn0, tn1, tn2, tn3, t1, t2, mayD1, mayD2, szF, shMayF] at *); all_goals (try omega))
        all_goals first | exact True.intro | rfl | skip
      case round =>
        intro v hv
        cbv
        refine BrB.mk (fun go => ?yo) (fun go => ?no)
        case yo =>
          (repeat' (first | apply And.intro | apply BrB.mk | apply BrP.mk | intro _))
          all_goals try (refine loop_at Nat 81 (fun x => [(13, .v (.int .i64 (V u v x))), (14, .any), (81, .v (.int .i64 (c x)))]) (fun _ o => o) (fun x => ci x ≤ gD.getD 0 0) (fun x => (gD.getD 0 0 - ci x).toNat) 0 ?h0 ?hle ?round)
          case h0 =>
            (all_goals (subst hA; subst h_c; subst h_fm; subst h_ff; subst h_fd; subst h_fs; subst h_fE; subst h_fR); all_goals (have f_sg := SG.out; have f_sw := SW.out); all_goals (try simp only [std, stdBin, stdCmp, stdUna, stdIn, ci, beq_iff_eq, bne_iff_ne, beq_eq_false_iff_ne, bne_eq_false_iff_eq, decide_eq_true_eq, decide_eq_false_iff_not, Bool.not_true, Bool.not_false, Bool.not_eq_true', Bool.not_eq_false', Bool.not_not, tn0, tn1, tn2, tn3, t1, t2, mayD1, mayD2, szF, shMayF] at *); all_goals (try omega))
            all_goals (obtain ⟨n, m, k, e1, e2, e3, e4, ⟨n1, n2⟩, ⟨m1, m2⟩, ⟨k1, k2⟩, q0, l1, l2, nm, sz, ⟨x1, x2⟩⟩ := wt_main (g := ⟨gD, gE, gL⟩) (w := ⟨wD, wE, wL⟩) (by assumption) (by assumption) (by assumption) (by assumption) (by assumption) (by assumption); simp only at e1 e2 e3 e4 l1 l2 x1 x2)
            omega
          case hle =>
            cbv
            (repeat' (first | apply And.intro | apply BrB.mk | apply BrP.mk | intro _))
            (all_goals (subst hA; subst h_c; subst h_fm; subst h_ff; subst h_fd; subst h_fs; subst h_fE; subst h_fR); all_goals (have f_sg := SG.out; have f_sw := SW.out); all_goals (try simp only [std, stdBin, stdCmp, stdUna, stdIn, ci, beq_iff_eq, bne_iff_ne, beq_eq_false_iff_ne, bne_eq_false_iff_eq, decide_eq_true_eq, decide_eq_false_iff_not, Bool.not_true, Bool.not_false, Bool.not_eq_true', Bool.not_eq_false', Bool.not_not, tn0, tn1, tn2, tn3, t1, t2, mayD1, mayD2, szF, shMayF] at *); all_goals (try omega))
            all_goals first | exact True.intro | rfl | skip
            rw [hV, sumTo]
          case round =>
            intro z hz
            cbv
            refine BrB.mk (fun gj => ?yj) (fun gj => ?nj)
            case yj =>
              (repeat' (first | apply And.intro | apply BrB.mk | apply BrP.mk | intro _))
              all_goals try (refine ⟨z + 1, ?jI, ?jL, ?jM⟩)
              case jL =>
                cbv
                (repeat' (first | apply And.intro | apply BrB.mk | apply BrP.mk | intro _))
                (all_goals (subst hA; subst h_c; subst h_fm; subst h_ff; subst h_fd; subst h_fs; subst h_fE; subst h_fR); all_goals (have f_sg := SG.out; have f_sw := SW.out); all_goals (try simp only [std, stdBin, stdCmp, stdUna, stdIn, ci, beq_iff_eq, bne_iff_ne, beq_eq_false_iff_ne, bne_eq_false_iff_eq, decide_eq_true_eq, decide_eq_false_iff_not, Bool.not_true, Bool.not_false, Bool.not_eq_true', Bool.not_eq_false', Bool.not_not, tn0, tn1, tn2, tn3, t1, t2, mayD1, mayD2, szF, shMayF] at *); all_goals (try omega))
                all_goals first | exact True.intro | rfl | skip
                all_goals (obtain ⟨n, m, k, e1, e2, e3, e4, ⟨n1, n2⟩, ⟨m1, m2⟩, ⟨k1, k2⟩, q0, l1, l2, nm, sz, ⟨x1, x2⟩⟩ := wt_main (g := ⟨gD, gE, gL⟩) (w := ⟨wD, wE, wL⟩) (by assumption) (by assumption) (by assumption) (by assumption) (by assumption) (by assumption); simp only at e1 e2 e3 e4 l1 l2 x1 x2)
                refine congrArg _ ?_
                rw [hV, hV, sumTo, prI_nat (colsR ⟨gD, gE, gL⟩) (colsR ⟨wD, wE, wL⟩) u v z 1 1 m k rfl rfl e2 e4, e2, e4, ← Int.natCast_mul, ← Int.natCast_add, ← Int.natCast_mul, ← Int.natCast_add, Int.toNat_natCast, Int.toNat_natCast, Nat.mul_one, Nat.mul_one, Nat.add_comm u, Nat.add_comm v]
                rfl
              (all_goals (subst hA; subst h_c; subst h_fm; subst h_ff; subst h_fd; subst h_fs; subst h_fE; subst h_fR); all_goals (have f_sg := SG.out; have f_sw := SW.out); all_goals (try simp only [std, stdBin, stdCmp, stdUna, stdIn, ci, beq_iff_eq, bne_iff_ne, beq_eq_false_iff_ne, bne_eq_false_iff_eq, decide_eq_true_eq, decide_eq_false_iff_not, Bool.not_true, Bool.not_false, Bool.not_eq_true', Bool.not_eq_false', Bool.not_not, tn0, tn1, tn2, tn3, t1, t2, mayD1, mayD2, szF, shMayF] at *); all_goals (try omega))
              all_goals (obtain ⟨n, m, k, e1, e2, e3, e4, ⟨n1, n2⟩, ⟨m1, m2⟩, ⟨k1, k2⟩, q0, l1, l2, nm, sz, ⟨x1, x2⟩⟩ := wt_main (g := ⟨gD, gE, gL⟩) (w := ⟨wD, wE, wL⟩) (by assumption) (by assumption) (by assumption) (by assumption) (by assumption) (by assumption); simp only at e1 e2 e3 e4 l1 l2 x1 x2)
              all_goals (have q1 := idx_lt (i := z) (n := n) (j := u) (k := m) (by omega) (by omega))
              all_goals (have q2 := idx_lt (i := z) (n := n) (j := v) (k := k) (by omega) (by omega))
              all_goals (have a1 := fits8 f_sg.2.2.1 (z * m + u); have a2 := fits8 f_sw.2.2.1 (z * k + v))
              all_goals (have a3 := mulAbs (A := 128) (B := 128) a1.1 (by omega) a2.1 (by omega))
              all_goals (have a5 := sumTo_in _ 0 (prI_in (a := colsR ⟨gD, gE, gL⟩) (b := colsR ⟨wD, wE, wL⟩) f_sg.2.2.1 f_sw.2.2.1 (u : Int) (v : Int)) z)
              all_goals (try simp only [e1, e2, e3, e4, hV, ← Int.natCast_mul, ← Int.natCast_add, Int.toNat_natCast])
              all_goals omega
            case nj =>
              (repeat' (first | apply And.intro | apply BrB.mk | apply BrP.mk | intro _))
              all_goals try (refine ⟨v + 1, ?oI, ?oL, ?oM⟩)
              case oL =>
                cbv
                (repeat' (first | apply And.intro | apply BrB.mk | apply BrP.mk | intro _))
                (all_goals (subst hA; subst h_c; subst h_fm; subst h_ff; subst h_fd; subst h_fs; subst h_fE; subst h_fR); all_goals (have f_sg := SG.out; have f_sw := SW.out); all_goals (try simp only [std, stdBin, stdCmp, stdUna, stdIn, ci, beq_iff_eq, bne_iff_ne, beq_eq_false_iff_ne, bne_eq_false_iff_eq, decide_eq_true_eq, decide_eq_false_iff_not, Bool.not_true, Bool.not_false, Bool.not_eq_true', Bool.not_eq_false', Bool.not_not, tn0, tn1, tn2, tn3, t1, t2, mayD1, mayD2, szF, shMayF] at *); all_goals (try omega))
                all_goals first | exact True.intro | rfl | skip
                all_goals (obtain ⟨n, m, k, e1, e2, e3, e4, ⟨n1, n2⟩, ⟨m1, m2⟩, ⟨k1, k2⟩, q0, l1, l2, nm, sz, ⟨x1, x2⟩⟩ := wt_main (g := ⟨gD, gE, gL⟩) (w := ⟨wD, wE, wL⟩) (by assumption) (by assumption) (by assumption) (by assumption) (by assumption) (by assumption); simp only at e1 e2 e3 e4 l1 l2 x1 x2)
                have a5 := sumTo_in _ 0 (prI_in (a := colsR ⟨gD, gE, gL⟩) (b := colsR ⟨wD, wE, wL⟩) f_sg.2.2.1 f_sw.2.2.1 (u : Int) (v : Int)) n
                rw [hT, hT, hV, e2, e4, e1, show z = n by omega]
                simp only [← Int.natCast_mul, ← Int.natCast_add, Int.toNat_natCast]
                refine mixL_store (idx_lt (by omega) (by omega)) ?_
                rw [dt_at _ _ (u := u) (by omega), w32 (by omega) (by omega)]
              (all_goals (subst hA; subst h_c; subst h_fm; subst h_ff; subst h_fd; subst h_fs; subst h_fE; subst h_fR); all_goals (have f_sg := SG.out; have f_sw := SW.out); all_goals (try simp only [std, stdBin, stdCmp, stdUna, stdIn, ci, beq_iff_eq, bne_iff_ne, beq_eq_false_iff_ne, bne_eq_false_iff_eq, decide_eq_true_eq, decide_eq_false_iff_not, Bool.not_true, Bool.not_false, Bool.not_eq_true', Bool.not_eq_false', Bool.not_not, tn0, tn1, tn2, tn3, t1, t2, mayD1, mayD2, szF, shMayF] at *); all_goals (try omega))
              all_goals (obtain ⟨n, m, k, e1, e2, e3, e4, ⟨n1, n2⟩, ⟨m1, m2⟩, ⟨k1, k2⟩, q0, l1, l2, nm, sz, ⟨x1, x2⟩⟩ := wt_main (g := ⟨gD, gE, gL⟩) (w := ⟨wD, wE, wL⟩) (by assumption) (by assumption) (by assumption) (by assumption) (by assumption) (by assumption); simp only at e1 e2 e3 e4 l1 l2 x1 x2)
              all_goals (have q1 := idx_lt (i := u) (n := m) (j := v) (k := k) (by omega) (by omega))
              all_goals (try simp only [e2, e4, hT, mixL_len, ← Int.natCast_mul, ← Int.natCast_add, Int.toNat_natCast])
              all_goals omega
          (all_goals (subst hA; subst h_c; subst h_fm; subst h_ff; subst h_fd; subst h_fs; subst h_fE; subst h_fR); all_goals (have f_sg := SG.out; have f_sw := SW.out); all_goals (try simp only [std, stdBin, stdCmp, stdUna, stdIn, ci, beq_iff_eq, bne_iff_ne, beq_eq_false_iff_ne, bne_eq_false_iff_eq, decide_eq_true_eq, decide_eq_false_iff_not, Bool.not_true, Bool.not_false, Bool.not_eq_true', Bool.not_eq_false', Bool.not_not, tn0, tn1, tn2, tn3, t1, t2, mayD1, mayD2, szF, shMayF] at *); all_goals (try omega))
          all_goals (obtain ⟨n, m, k, e1, e2, e3, e4, ⟨n1, n2⟩, ⟨m1, m2⟩, ⟨k1, k2⟩, q0, l1, l2, nm, sz, ⟨x1, x2⟩⟩ := wt_main (g := ⟨gD, gE, gL⟩) (w := ⟨wD, wE, wL⟩) (by assumption) (by assumption) (by assumption) (by assumption) (by assumption) (by assumption); simp only at e1 e2 e3 e4 l1 l2 x1 x2)
          all_goals omega
        case no =>
          (repeat' (first | apply And.intro | apply BrB.mk | apply BrP.mk | intro _))
          all_goals try (refine ⟨u + 1, ?iI, ?iL, ?iM⟩)
          case iL =>
            cbv
            (repeat' (first | apply And.intro | apply BrB.mk | apply BrP.mk | intro _))
            (all_goals (subst hA; subst h_c; subst h_fm; subst h_ff; subst h_fd; subst h_fs; subst h_fE; subst h_fR); all_goals (have f_sg := SG.out; have f_sw := SW.out); all_goals (try simp only [std, stdBin, stdCmp, stdUna, stdIn, ci, beq_iff_eq, bne_iff_ne, beq_eq_false_iff_ne, bne_eq_false_iff_eq, decide_eq_true_eq, decide_eq_false_iff_not, Bool.not_true, Bool.not_false, Bool.not_eq_true', Bool.not_eq_false', Bool.not_not, tn0, tn1, tn2, tn3, t1, t2, mayD1, mayD2, szF, shMayF] at *); all_goals (try omega))
            all_goals first | exact True.intro | rfl | skip
            all_goals (obtain ⟨n, m, k, e1, e2, e3, e4, ⟨n1, n2⟩, ⟨m1, m2⟩, ⟨k1, k2⟩, q0, l1, l2, nm, sz, ⟨x1, x2⟩⟩ := wt_main (g := ⟨gD, gE, gL⟩) (w := ⟨wD, wE, wL⟩) (by assumption) (by assumption) (by assumption) (by assumption) (by assumption) (by assumption); simp only at e1 e2 e3 e4 l1 l2 x1 x2)
            rw [hT, hT, e4, Int.toNat_natCast, show v = k by omega, Nat.add_zero]
            show _ = mixL _ _ _ ((u + 1) * k)
            rw [Nat.add_mul, Nat.one_mul]
          (all_goals (subst hA; subst h_c; subst h_fm; subst h_ff; subst h_fd; subst h_fs; subst h_fE; subst h_fR); all_goals (have f_sg := SG.out; have f_sw := SW.out); all_goals (try simp only [std, stdBin, stdCmp, stdUna, stdIn, ci, beq_iff_eq, bne_iff_ne, beq_eq_false_iff_ne, bne_eq_false_iff_eq, decide_eq_true_eq, decide_eq_false_iff_not, Bool.not_true, Bool.not_false, Bool.not_eq_true', Bool.not_eq_false', Bool.not_not, tn0, tn1, tn2, tn3, t1, t2, mayD1, mayD2, szF, shMayF] at *); all_goals (try omega))
          all_goals (obtain ⟨n, m, k, e1, e2, e3, e4, ⟨n1, n2⟩, ⟨m1, m2⟩, ⟨k1, k2⟩, q0, l1, l2, nm, sz, ⟨x1, x2⟩⟩ := wt_main (g := ⟨gD, gE, gL⟩) (w := ⟨wD, wE, wL⟩) (by assumption) (by assumption) (by assumption) (by assumption) (by assumption) (by assumption); simp only at e1 e2 e3 e4 l1 l2 x1 x2)
          all_goals omega
    case ni =>
      (repeat' (first | apply And.intro | apply BrB.mk | apply BrP.mk | intro _))
      (all_goals (subst hA; subst h_c; subst h_fm; subst h_ff; subst h_fd; subst h_fs; subst h_fE; subst h_fR); all_goals (have f_sg := SG.out; have f_sw := SW.out); all_goals (try simp only [std, stdBin, stdCmp, stdUna, stdIn, ci, beq_iff_eq, bne_iff_ne, beq_eq_false_iff_ne, bne_eq_false_iff_eq, decide_eq_true_eq, decide_eq_false_iff_not, Bool.not_true, Bool.not_false, Bool.not_eq_true', Bool.not_eq_false', Bool.not_not, tn0, tn1, tn2, tn3, t1, t2, mayD1, mayD2, szF, shMayF] at *); all_goals (try omega))
      all_goals (try (simp only [wtErr, wtCnd, room_eq] at *; generalize (mayB ⟨gD, gE, gL⟩ && mayB ⟨wD, wE, wL⟩) = q at *; simp_all; done))
      all_goals (obtain ⟨n, m, k, e1, e2, e3, e4, ⟨n1, n2⟩, ⟨m1, m2⟩, ⟨k1, k2⟩, q0, l1, l2, nm, sz, ⟨x1, x2⟩⟩ := wt_main (g := ⟨gD, gE, gL⟩) (w := ⟨wD, wE, wL⟩) (by assumption) (by assumption) (by assumption) (by assumption) (by assumption) (by assumption); simp only at e1 e2 e3 e4 l1 l2 x1 x2)
      · rfl
      · rfl
      · rw [hT]
        show _ = (List.range ((gD.getD 1 0).toNat * (wD.getD 1 0).toNat)).map _
        rw [Nat.add_zero, show u = (gD.getD 1 0).toNat by omega, mixL_all]
        rfl
  (all_goals (subst hA; subst h_c; subst h_fm; subst h_ff; subst h_fd; subst h_fs; subst h_fE; subst h_fR); all_goals (have f_sg := SG.out; have f_sw := SW.out); all_goals (try simp only [std, stdBin, stdCmp, stdUna, stdIn, ci, beq_iff_eq, bne_iff_ne, beq_eq_false_iff_ne, bne_eq_false_iff_eq, decide_eq_true_eq, decide_eq_false_iff_not, Bool.not_true, Bool.not_false, Bool.not_eq_true', Bool.not_eq_false', Bool.not_not, tn0, tn1, tn2, tn3, t1, t2, mayD1, mayD2, szF, shMayF] at *); all_goals (try omega))
  all_goals (try (simp only [wtErr, wtCnd, room_eq] at *; generalize (mayB ⟨gD, gE, gL⟩ && mayB ⟨wD, wE, wL⟩) = q at *; simp_all; done))
  all_goals (try (have hm := exps2 ‹(mayB ⟨gD, gE, gL⟩ && mayB ⟨wD, wE, wL⟩) = true›; simp only at hm; omega))
  all_goals (obtain ⟨n, m, k, e1, e2, e3, e4, ⟨n1, n2⟩, ⟨m1, m2⟩, ⟨k1, k2⟩, q0, l1, l2, nm, sz, ⟨x1, x2⟩⟩ := wt_main (g := ⟨gD, gE, gL⟩) (w := ⟨wD, wE, wL⟩) (by assumption) (by assumption) (by assumption) (by assumption) (by assumption) (by assumption); simp only at e1 e2 e3 e4 l1 l2 x1 x2)
  all_goals (rw [e2, e4, sz]; omega)
end Go.Proofs.Ytcbcfajihbbdcaa
