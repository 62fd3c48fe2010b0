/- Layer 16: may a net be; its longest sum. -/
import Derived.Test.YtnjipnklbdlgaaaChkB
namespace Go.Proofs.Ytnjipnklbdlgaaa
open Go.RowKit
set_option maxRecDepth 1000000
set_option linter.unusedSimpArgs false
set_option linter.unusedVariables false
set_option maxHeartbeats 8000000
set_option cbv.maxSteps 10000000
/-- What a net has: the layers' numbers. -/
def prdI (c h w : Int) (x : Dat) (b : Int) (i : Nat) : Int := prdV (layI x i 0) (layI x i 1) (layI x i 2) ((shT c h w x i).getD 0 0) ((shT c h w x (i + 1)).getD 1 0) ((shT c h w x (i + 1)).getD 2 0) b
def roomI (c h w : Int) (x : Dat) (b : Int) (i : Nat) : Bool := roomB (layI x i 0) (layI x i 1) (layI x i 2) (shT c h w x i) (shT c h w x (i + 1)) b
def netE (c h w : Int) (x : Dat) (b : Int) (i : Nat) : Int := if roomI c h w x b i = false then 1 else if fitsN (prdI c h w x b i) = false then 3 else 0
def clsB (t : List Int) (n : Int) : Bool := decide (t.length = 1 ∧ t.getD 0 0 = n)
def netR (c h w : Int) (x : Dat) (n b : Int) : Int × Int :=
  if (shpR c h w x).2 ≠ 0 then shpR c h w x else if ¬ ((2 ≤ n ∧ n ≤ 10) ∧ 1 ≤ b ∧ b ≤ 8) then (0, 1)
  else if clsB (shT c h w x x.ls.length) n = false then ((x.ls.length : Int), 2) else lowE (netE c h w x b) 0 x.ls.length
def netN (xa : List AV) : Int := match xa with
  | [.st [.st [.z c, .z h, .z w], .d x], .z n, .z b] => (netR c h w x n b).1
  | _ => 0
def netF (xa : List AV) : Int := match xa with
  | [.st [.st [.z c, .z h, .z w], .d x], .z n, .z b] => (netR c h w x n b).2
  | _ => 0
def twoC (ts : List Ty) (f g : List AV → Int) : Ctr := ⟨ts, fun _ => none, fun xa => .ret (.tup [.v (.int .i64 (f xa)), .v (.int .i64 (g xa))]) [], false⟩
def fitsF (xa : List AV) : Bool := match xa with
  | [.z n] => fitsN n
  | _ => false
theorem ckfits_ok : CtrOk Try.prog 19 (boolC [.int .i64] fitsF) := by
  obtain ⟨G, hG⟩ : ∃ G : List (FuncId × Ctr), G = [] := ⟨_, rfl⟩
  refine fn_ok (ck := true) Try.func19 rfl tt_ok (G := G) (by rw [hG]; exact trivial) mixed (by kernel_rfl) ?_
  intro xa xs h hx hp
  obtain ⟨a0, as0, x0, xs0, rfl, rfl, h0, H1⟩ := svArgs_cons h
  obtain ⟨rfl, rfl⟩ := svArgs_nil H1
  obtain ⟨n, rfl, rfl⟩ := argSV_int h0
  have sn := of_i64 (hx (.v (.int .i64 n)) (by simp))
  have SN := Lib.hid sn
  clear sn
  clear hx hp h h0 H1
  generalize hA : std = A
  subst hG
  generalize h_c : ci = c
  generalize h_fR : fitsF = fR
  cbv
  (repeat' (first | apply And.intro | apply BrB.mk | apply BrP.mk | intro _))
  (all_goals (subst hA; subst h_c; subst h_fR); all_goals (have f_sn := SN.out); all_goals (try simp only [std, stdBin, stdCmp, stdUna, stdIn, ci, beq_iff_eq, bne_iff_ne, beq_eq_false_iff_ne, bne_eq_false_iff_eq, decide_eq_true_eq, decide_eq_false_iff_not, Bool.not_true, Bool.not_false, Bool.not_eq_true', Bool.not_eq_false', Bool.not_not, tn0, tn1, tn2, tn3, fitsF] at *); all_goals (try omega))
  all_goals (refine vb ?_; unfold fitsN; first | (rw [decide_eq_decide]; omega) | (rw [decide_eq_false_iff_not]; omega) | (rw [decide_eq_true_eq]; omega))
theorem ckroom_ok : CtrOk Try.prog 38 (boolP [layTy, .sl (.int .i64), .sl (.int .i64), .int .i64] roomP roomF) := by
  exact room_ok
theorem rowsD_at' (L : List (List Int)) (i : Nat) : ((rowsD L).at i).ints = L.getD i [] := rowsD_at L i
theorem shpR_ok {c h w : Int} {x : Dat} (hr : (shpR c h w x).2 = 0) : mdlB c h w x = true ∧ ∀ i, i < x.ls.length → shErr c h w x i = 0 := by
  unfold shpR at hr
  by_cases hm : mdlB c h w x = true
  · rw [if_pos hm] at hr
    exact ⟨hm, fun i hi => lowE_zero _ 0 hr i (Nat.zero_le _) (by omega)⟩
  · rw [if_neg hm] at hr
    exact absurd hr (by decide)
theorem lay_N {x : Dat} {i : Nat} (h : layAt x i = true) : layN (layI x i 0) (layI x i 1) (layI x i 2) := by
  unfold layAt layB at h
  unfold layN layI
  refine ⟨fun h1 => ?_, fun h2 => ?_⟩
  · rw [if_pos h1] at h
    have := of_decide_eq_true h
    omega
  · rw [if_neg (by omega), if_pos h2] at h
    have := of_decide_eq_true h
    omega
theorem shT_three {c h w : Int} {x : Dat} {i : Nat} (h2 : layI x i 0 = 2) : (shT c h w x (i + 1)).length = 3 := by
  rw [shT_succ, h2]
  rfl
theorem net_a {c h' w : Int} {x : Dat} {n b : Int} (h : ¬ (shpR c h' w x).2 = 0) : netR c h' w x n b = shpR c h' w x := if_pos h
theorem net_b {c h' w : Int} {x : Dat} {n b : Int} (h : (shpR c h' w x).2 = 0) (g : ¬ ((2 ≤ n ∧ n ≤ 10) ∧ 1 ≤ b ∧ b ≤ 8)) : netR c h' w x n b = (0, 1) := by
  unfold netR
  rw [if_neg (by omega), if_pos g]
theorem net_c {c h' w : Int} {x : Dat} {n b : Int} (h : (shpR c h' w x).2 = 0) (g : (2 ≤ n ∧ n ≤ 10) ∧ 1 ≤ b ∧ b ≤ 8) (k : clsB (shT c h' w x x.ls.length) n = false) : netR c h' w x n b = ((x.ls.length : Int), 2) := by
  unfold netR
  rw [if_neg (by omega), if_neg (by omega), if_pos k]
theorem net_d {c h' w : Int} {x : Dat} {n b : Int} (h : (shpR c h' w x).2 = 0) (g : (2 ≤ n ∧ n ≤ 10) ∧ 1 ≤ b ∧ b ≤ 8) (k : clsB (shT c h' w x x.ls.length) n = true) : netR c h' w x n b = lowE (netE c h' w x b) 0 x.ls.length := by
  unfold netR
  rw [if_neg (by omega), if_neg (by omega), if_neg (by rw [k]; simp)]
theorem netE_one {c h w : Int} {x : Dat} {b : Int} {i : Nat} (h1 : roomI c h w x b i = false) : netE c h w x b i = 1 := if_pos h1
theorem netE_three {c h w : Int} {x : Dat} {b : Int} {i : Nat} (h1 : roomI c h w x b i = true) (h2 : fitsN (prdI c h w x b i) = false) : netE c h w x b i = 3 := by
  unfold netE; rw [if_neg (by rw [h1]; simp), if_pos h2]
theorem netE_zero {c h w : Int} {x : Dat} {b : Int} {i : Nat} (h1 : roomI c h w x b i = true) (h2 : fitsN (prdI c h w x b i) = true) : netE c h w x b i = 0 := by
  unfold netE; rw [if_neg (by rw [h1]; simp), if_neg (by rw [h2]; simp)]
theorem net_ok : CtrOk Try.prog 15 (twoC [mdlTy, .int .i64, .int .i64] netN netF) := by
  obtain ⟨G, hG⟩ : ∃ G : List (FuncId × Ctr), G = [(38, boolP [layTy, .sl (.int .i64), .sl (.int .i64), .int .i64] roomP roomF), (39, intP [layTy, .sl (.int .i64), .sl (.int .i64), .int .i64] .i64 prdP prdF), (19, boolC [.int .i64] fitsF)] := ⟨_, rfl⟩
  refine fn_inl2 (ck := true) rfl [(12, shpC shpE shpN shpD)] ⟨⟨by unfold FnOk; kernel_rfl, shapes_ok⟩, trivial⟩ [(35, Try.f35), (36, Try.f36), (37, Try.f37)] ⟨⟨Try.func35, by unfold FnOk; kernel_rfl, by kernel_rfl⟩, ⟨Try.func36, by unfold FnOk; kernel_rfl, by kernel_rfl⟩, ⟨Try.func37, by unfold FnOk; kernel_rfl, by kernel_rfl⟩, trivial⟩ Try.func15 rfl tt_ok (G := G) (by rw [hG]; exact ⟨⟨ckroom_ok, by unfold FnOk; kernel_rfl⟩, ⟨prd_ok, by unfold FnOk; kernel_rfl⟩, ⟨ckfits_ok, by unfold FnOk; kernel_rfl⟩, trivial⟩) mixed (by kernel_rfl) ?_
  intro xa xs h hx hp
  obtain ⟨a0, as0, x0, xs0, rfl, rfl, h0, H1⟩ := svArgs_cons h
  obtain ⟨a1, as1, x1, xs1, rfl, rfl, h1, H2⟩ := svArgs_cons H1
  obtain ⟨a2, as2, x2, xs2, rfl, rfl, h2, H3⟩ := svArgs_cons H2
  obtain ⟨rfl, rfl⟩ := svArgs_nil H3
  obtain ⟨mc, mh, mw, mx, rfl, rfl⟩ := argSV_mdl h0
  obtain ⟨n, rfl, rfl⟩ := argSV_int h1
  obtain ⟨b, rfl, rfl⟩ := argSV_int h2
  have sm : (-9223372036854775808 ≤ mc ∧ mc ≤ 9223372036854775807) ∧ (-9223372036854775808 ≤ mh ∧ mh ≤ 9223372036854775807) ∧ (-9223372036854775808 ≤ mw ∧ mw ≤ 9223372036854775807) ∧ ((ci mx.ls.length ≤ 9223372036854775807) ∧ Wt (.sl layTy) mx) := svf_mdl (hx (.agg [.v (.int .i64 mc), .v (.int .i64 mh), .v (.int .i64 mw), .imm layTy mx]) (List.mem_of_getElem? (i := 0) rfl))
  have sn := of_i64 (hx (.v (.int .i64 n)) (by simp))
  have sb := of_i64 (hx (.v (.int .i64 b)) (by simp))
  have SM := Lib.hid sm
  clear sm
  have SN := Lib.hid sn
  clear sn
  have SB := Lib.hid sb
  clear sb
  clear hx hp h h0 H1 h1 H2 h2 H3
  generalize hA : std = A
  subst hG
  generalize h_c : ci = c
  generalize h_fe : shpE = fe
  generalize h_fN : shpN = fN
  generalize h_fD : shpD = fD
  generalize h_fp : roomP = fp
  generalize h_fr : roomF = fr
  generalize h_fq : prdP = fq
  generalize h_fv : prdF = fv
  generalize h_ff : fitsF = ff
  generalize h_gN : netN = gN
  generalize h_gE : netF = gE
  cbv
  (repeat' (first | apply And.intro | apply BrB.mk | apply BrP.mk | intro _))
  (all_goals try (exfalso; (subst hA; subst h_c; subst h_fe; subst h_fN; subst h_fD; subst h_fp; subst h_fr; subst h_fq; subst h_fv; subst h_ff; subst h_gN; subst h_gE); (try simp only [std, stdBin, stdCmp, stdUna, stdIn, ci, beq_iff_eq, bne_iff_ne, beq_eq_false_iff_ne, bne_eq_false_iff_eq, decide_eq_true_eq, decide_eq_false_iff_not, Bool.not_true, Bool.not_false, Bool.not_eq_true', Bool.not_eq_false', Bool.not_not, tn0, tn1, tn2, tn3] at *); first | omega | contradiction))
  all_goals try (refine loop_at Nat 46 (fun k => [(6, .v (.int .i64 0)), (7, .v (.int .i64 0)), (11, .any), (12, .any), (46, .v (.int .i64 (c k)))]) (fun k o => o) (fun k => k ≤ mx.ls.length ∧ ∀ i, i < k → netE mc mh mw mx b i = 0) (fun k => mx.ls.length - k) 0 ?h0 ?hle ?round)
  case h0 => exact ⟨Nat.zero_le _, fun i hi => absurd hi (Nat.not_lt_zero _)⟩
  case hle => (cbv; (repeat' (first | apply And.intro | apply BrB.mk | apply BrP.mk | intro _)); all_goals (subst hA; subst h_c; subst h_fe; subst h_fN; subst h_fD; subst h_fp; subst h_fr; subst h_fq; subst h_fv; subst h_ff; subst h_gN; subst h_gE); all_goals (have f_sm := SM.out; have f_sn := SN.out; have f_sb := SB.out); all_goals (try simp only [std, stdBin, stdCmp, stdUna, stdIn, ci, beq_iff_eq, bne_iff_ne, beq_eq_false_iff_ne, bne_eq_false_iff_eq, decide_eq_true_eq, decide_eq_false_iff_not, Bool.not_true, Bool.not_false, Bool.not_eq_true', Bool.not_eq_false', Bool.not_not, tn0, tn1, tn2, tn3] at *); (all_goals first | exact True.intro | rfl | exact congrArg (Value.int .i64) (by omega)))
  case round =>
    rintro k ⟨hk, hE⟩
    cbv
    refine BrB.mk (fun gx => ?yx) (fun gx => ?nx)
    case yx =>
      (repeat' (first | apply And.intro | apply BrB.mk | apply BrP.mk | intro _))
      (all_goals try (exfalso; (subst hA; subst h_c; subst h_fe; subst h_fN; subst h_fD; subst h_fp; subst h_fr; subst h_fq; subst h_fv; subst h_ff; subst h_gN; subst h_gE); (try simp only [std, stdBin, stdCmp, stdUna, stdIn, ci, beq_iff_eq, bne_iff_ne, beq_eq_false_iff_ne, bne_eq_false_iff_eq, decide_eq_true_eq, decide_eq_false_iff_not, Bool.not_true, Bool.not_false, Bool.not_eq_true', Bool.not_eq_false', Bool.not_not, tn0, tn1, tn2, tn3] at *); first | omega | contradiction))
      all_goals try (refine ⟨k + 1, ?_, ?_, ?_⟩)
      all_goals try (show AS.le _ _; (cbv; (repeat' (first | apply And.intro | apply BrB.mk | apply BrP.mk | intro _)); all_goals (subst hA; subst h_c; subst h_fe; subst h_fN; subst h_fD; subst h_fp; subst h_fr; subst h_fq; subst h_fv; subst h_ff; subst h_gN; subst h_gE); all_goals (have f_sm := SM.out; have f_sn := SN.out; have f_sb := SB.out); all_goals (try simp only [std, stdBin, stdCmp, stdUna, stdIn, ci, beq_iff_eq, bne_iff_ne, beq_eq_false_iff_ne, bne_eq_false_iff_eq, decide_eq_true_eq, decide_eq_false_iff_not, Bool.not_true, Bool.not_false, Bool.not_eq_true', Bool.not_eq_false', Bool.not_not, tn0, tn1, tn2, tn3] at *); (all_goals first | exact True.intro | rfl | exact congrArg (Value.int .i64) (by omega))))
      (all_goals (subst hA; subst h_c; subst h_fe; subst h_fN; subst h_fD; subst h_fp; subst h_fr; subst h_fq; subst h_fv; subst h_ff; subst h_gN; subst h_gE); all_goals (have f_sm := SM.out; have f_sn := SN.out; have f_sb := SB.out); all_goals (try simp only [std, stdBin, stdCmp, stdUna, stdIn, ci, beq_iff_eq, bne_iff_ne, beq_eq_false_iff_ne, bne_eq_false_iff_eq, decide_eq_true_eq, decide_eq_false_iff_not, Bool.not_true, Bool.not_false, Bool.not_eq_true', Bool.not_eq_false', Bool.not_not, tn0, tn1, tn2, tn3, netN, netF, shpE, shpN, shpD, rowsD_at', rowsD_len, shp_len, roomF, roomP, prdF, prdP, fitsF, Int.toNat_natCast] at *); all_goals (try omega))
      all_goals (have hz : (shpR mc mh mw mx).2 = 0 := by assumption)
      all_goals (obtain ⟨hm, hS⟩ := shpR_ok hz)
      all_goals (obtain ⟨m1, m2, m3, m4, m5⟩ := mdl_of hm)
      all_goals (have hkn : k < mx.ls.length := by omega)
      all_goals (have e1 : ((k : Int) + 1).toNat = k + 1 := by omega)
      all_goals (have e2 : ((mx.ls.length : Nat) : Int).toNat = mx.ls.length := by omega)
      all_goals (have e3 : (shp mc mh mw mx mx.ls.length).getD k [] = shT mc mh mw mx k := shp_at (by omega))
      all_goals (have e4 : (shp mc mh mw mx mx.ls.length).getD (k + 1) [] = shT mc mh mw mx (k + 1) := shp_at (by omega))
      all_goals (have e5 : (shp mc mh mw mx mx.ls.length).getD mx.ls.length [] = shT mc mh mw mx mx.ls.length := shp_at (by omega))
      all_goals (have hl := lay_N (m5 k hkn))
      all_goals (try simp only [e1, e2, e3, e4, e5] at *)
      all_goals (have hg : (2 ≤ n ∧ n ≤ 10) ∧ 1 ≤ b ∧ b ≤ 8 := ⟨⟨by omega, by omega⟩, by omega, by omega⟩)
      all_goals (have hc : clsB (shT mc mh mw mx mx.ls.length) n = true := decide_eq_true ⟨by omega, by assumption⟩)
      all_goals (have hd := net_d hz hg hc)
      all_goals first
        | exact ⟨hl, shT_may hm hS k (by omega), by omega, by omega⟩
        | exact ⟨hl, shT_may hm hS k (by omega), shT_may hm hS (k + 1) (by omega), fun h2 => shT_three h2, by omega, by omega⟩
        | (have he : netE mc mh mw mx b k = 1 := netE_one (by assumption)
           have hv : netR mc mh mw mx n b = ((k : Int) + 1, 1) := by rw [hd, lowE_hit hkn hE (by rw [he]; decide), he]
           first | (rw [hv]; done) | (rw [hv]; rfl) | (show Value.int .i64 _ = Value.int .i64 (netR mc mh mw mx n b).1; rw [hv]; done) | (show Value.int .i64 _ = Value.int .i64 (netR mc mh mw mx n b).2; rw [hv]; done))
        | (have he : netE mc mh mw mx b k = 3 := netE_three (by assumption) (by assumption)
           have hv : netR mc mh mw mx n b = ((k : Int) + 1, 3) := by rw [hd, lowE_hit hkn hE (by rw [he]; decide), he]
           first | (rw [hv]; done) | (rw [hv]; rfl) | (show Value.int .i64 _ = Value.int .i64 (netR mc mh mw mx n b).1; rw [hv]; done) | (show Value.int .i64 _ = Value.int .i64 (netR mc mh mw mx n b).2; rw [hv]; done))
        | (refine ⟨by omega, fun i hi => ?_⟩
           by_cases e : i = k
           · subst e; exact netE_zero (by assumption) (by assumption)
           · exact hE i (by omega))
        | trace_state
    case nx =>
      (repeat' (first | apply And.intro | apply BrB.mk | apply BrP.mk | intro _))
      (all_goals (subst hA; subst h_c; subst h_fe; subst h_fN; subst h_fD; subst h_fp; subst h_fr; subst h_fq; subst h_fv; subst h_ff; subst h_gN; subst h_gE); all_goals (have f_sm := SM.out; have f_sn := SN.out; have f_sb := SB.out); all_goals (try simp only [std, stdBin, stdCmp, stdUna, stdIn, ci, beq_iff_eq, bne_iff_ne, beq_eq_false_iff_ne, bne_eq_false_iff_eq, decide_eq_true_eq, decide_eq_false_iff_not, Bool.not_true, Bool.not_false, Bool.not_eq_true', Bool.not_eq_false', Bool.not_not, tn0, tn1, tn2, tn3, netN, netF, shpE, shpN, shpD, rowsD_at', rowsD_len, shp_len, Int.toNat_natCast] at *); all_goals (try omega))
      all_goals (have hz : (shpR mc mh mw mx).2 = 0 := by assumption)
      all_goals (have e5 : (shp mc mh mw mx mx.ls.length).getD mx.ls.length [] = shT mc mh mw mx mx.ls.length := shp_at (by omega))
      all_goals (simp only [e5] at *)
      all_goals (have hg : (2 ≤ n ∧ n ≤ 10) ∧ 1 ≤ b ∧ b ≤ 8 := ⟨⟨by omega, by omega⟩, by omega, by omega⟩)
      all_goals (have hc : clsB (shT mc mh mw mx mx.ls.length) n = true := decide_eq_true ⟨by omega, by assumption⟩)
      all_goals (have hv : netR mc mh mw mx n b = (0, 0) := by rw [net_d hz hg hc, lowE_none fun i hi => hE i (by omega)])
      all_goals first | first | (rw [hv]; done) | (rw [hv]; rfl) | (show Value.int .i64 _ = Value.int .i64 (netR mc mh mw mx n b).1; rw [hv]; done) | (show Value.int .i64 _ = Value.int .i64 (netR mc mh mw mx n b).2; rw [hv]; done) | trace_state
  (all_goals (subst hA; subst h_c; subst h_fe; subst h_fN; subst h_fD; subst h_fp; subst h_fr; subst h_fq; subst h_fv; subst h_ff; subst h_gN; subst h_gE); all_goals (have f_sm := SM.out; have f_sn := SN.out; have f_sb := SB.out); all_goals (try simp only [std, stdBin, stdCmp, stdUna, stdIn, ci, beq_iff_eq, bne_iff_ne, beq_eq_false_iff_ne, bne_eq_false_iff_eq, decide_eq_true_eq, decide_eq_false_iff_not, Bool.not_true, Bool.not_false, Bool.not_eq_true', Bool.not_eq_false', Bool.not_not, tn0, tn1, tn2, tn3, netN, netF, shpE, shpN, shpD, rowsD_at', rowsD_len, shp_len, Int.toNat_natCast] at *); all_goals (try omega))
  all_goals (have e5 : (shp mc mh mw mx mx.ls.length).getD mx.ls.length [] = shT mc mh mw mx mx.ls.length := shp_at (by omega))
  all_goals (try simp only [e5] at *)
  all_goals first
    | (have hv : netR mc mh mw mx n b = (0, 1) := net_b (by assumption) (by omega)
       first | (rw [hv]; done) | (rw [hv]; rfl) | (show Value.int .i64 _ = Value.int .i64 (netR mc mh mw mx n b).1; rw [hv]; done) | (show Value.int .i64 _ = Value.int .i64 (netR mc mh mw mx n b).2; rw [hv]; done))
    | (have hv : netR mc mh mw mx n b = ((mx.ls.length : Int), 2) := net_c (by assumption) ⟨⟨by omega, by omega⟩, by omega, by omega⟩ (decide_eq_false (by omega))
       first | (rw [hv]; done) | (rw [hv]; rfl) | (show Value.int .i64 _ = Value.int .i64 (netR mc mh mw mx n b).1; rw [hv]; done) | (show Value.int .i64 _ = Value.int .i64 (netR mc mh mw mx n b).2; rw [hv]; done))
    | (have hv := net_a (n := n) (b := b) (by assumption)
       first | (rw [hv]; done) | (rw [hv]; rfl) | (show Value.int .i64 _ = Value.int .i64 (netR mc mh mw mx n b).1; rw [hv]; done) | (show Value.int .i64 _ = Value.int .i64 (netR mc mh mw mx n b).2; rw [hv]; done))
    | trace_state
def longUp (c h w : Int) (x : Dat) (b : Int) : Nat → Int
  | 0 => 0
  | i + 1 => mx (longUp c h w x b i) (prdI c h w x b i)
def longR (c h w : Int) (x : Dat) (b : Int) : Int :=
  if ¬ (shpR c h w x).2 = 0 ∨ ¬ (1 ≤ b ∧ b ≤ 8) then 0 else if ¬ ((shT c h w x x.ls.length).length = 1 ∧ 2 ≤ (shT c h w x x.ls.length).getD 0 0 ∧ (shT c h w x x.ls.length).getD 0 0 ≤ 10) then 0
  else if allTo (roomI c h w x b) x.ls.length = false then 0 else longUp c h w x b x.ls.length
def longF (xa : List AV) : Int := match xa with
  | [.st [.st [.z c, .z h, .z w], .d x], .z b] => longR c h w x b
  | _ => 0
theorem long_a {c h' w : Int} {x : Dat} {b : Int} (h : ¬ (shpR c h' w x).2 = 0 ∨ ¬ (1 ≤ b ∧ b ≤ 8)) : longR c h' w x b = 0 := if_pos h
theorem long_b {c h' w : Int} {x : Dat} {b : Int} (g : ¬ ((shT c h' w x x.ls.length).length = 1 ∧ 2 ≤ (shT c h' w x x.ls.length).getD 0 0 ∧ (shT c h' w x x.ls.length).getD 0 0 ≤ 10)) : longR c h' w x b = 0 := by
  unfold longR
  by_cases h : ¬ (shpR c h' w x).2 = 0 ∨ ¬ (1 ≤ b ∧ b ≤ 8)
  · rw [if_pos h]
  · rw [if_neg h, if_pos g]
theorem long_c {c h' w : Int} {x : Dat} {b : Int} (k : allTo (roomI c h' w x b) x.ls.length = false) : longR c h' w x b = 0 := by
  unfold longR
  by_cases h : ¬ (shpR c h' w x).2 = 0 ∨ ¬ (1 ≤ b ∧ b ≤ 8)
  · rw [if_pos h]
  · rw [if_neg h]
    split <;> first | rfl | (rw [if_pos k])
theorem long_d {c h' w : Int} {x : Dat} {b : Int} (h : (shpR c h' w x).2 = 0) (hb : 1 ≤ b ∧ b ≤ 8) (g : (shT c h' w x x.ls.length).length = 1 ∧ 2 ≤ (shT c h' w x x.ls.length).getD 0 0 ∧ (shT c h' w x x.ls.length).getD 0 0 ≤ 10) (k : allTo (roomI c h' w x b) x.ls.length = true) : longR c h' w x b = longUp c h' w x b x.ls.length := by
  unfold longR
  rw [if_neg (by rintro (q | q); exact q h; exact q hb), if_neg (by rintro q; exact q g), if_neg (by rw [k]; simp)]
theorem long_ok : CtrOk Try.prog 17 (intC [mdlTy, .int .i64] .i64 longF) := by
  obtain ⟨G, hG⟩ : ∃ G : List (FuncId × Ctr), G = [(38, boolP [layTy, .sl (.int .i64), .sl (.int .i64), .int .i64] roomP roomF), (39, intP [layTy, .sl (.int .i64), .sl (.int .i64), .int .i64] .i64 prdP prdF)] := ⟨_, rfl⟩
  refine fn_inl2 (ck := true) rfl [(12, shpC shpE shpN shpD)] ⟨⟨by unfold FnOk; kernel_rfl, shapes_ok⟩, trivial⟩ [(35, Try.f35), (36, Try.f36)] ⟨⟨Try.func35, by unfold FnOk; kernel_rfl, by kernel_rfl⟩, ⟨Try.func36, by unfold FnOk; kernel_rfl, by kernel_rfl⟩, trivial⟩ Try.func17 rfl tt_ok (G := G) (by rw [hG]; exact ⟨⟨ckroom_ok, by unfold FnOk; kernel_rfl⟩, ⟨prd_ok, by unfold FnOk; kernel_rfl⟩, trivial⟩) mixed (by kernel_rfl) ?_
  intro xa xs h hx hp
  obtain ⟨a0, as0, x0, xs0, rfl, rfl, h0, H1⟩ := svArgs_cons h
  obtain ⟨a1, as1, x1, xs1, rfl, rfl, h1, H2⟩ := svArgs_cons H1
  obtain ⟨rfl, rfl⟩ := svArgs_nil H2
  obtain ⟨mc, mh, mw, mx, rfl, rfl⟩ := argSV_mdl h0
  obtain ⟨b, rfl, rfl⟩ := argSV_int h1
  have sm : (-9223372036854775808 ≤ mc ∧ mc ≤ 9223372036854775807) ∧ (-9223372036854775808 ≤ mh ∧ mh ≤ 9223372036854775807) ∧ (-9223372036854775808 ≤ mw ∧ mw ≤ 9223372036854775807) ∧ ((ci mx.ls.length ≤ 9223372036854775807) ∧ Wt (.sl layTy) mx) := svf_mdl (hx (.agg [.v (.int .i64 mc), .v (.int .i64 mh), .v (.int .i64 mw), .imm layTy mx]) (List.mem_of_getElem? (i := 0) rfl))
  have sb := of_i64 (hx (.v (.int .i64 b)) (by simp))
  have SM := Lib.hid sm
  clear sm
  have SB := Lib.hid sb
  clear sb
  clear hx hp h h0 H1 h1 H2
  generalize hA : std = A
  subst hG
  generalize h_c : ci = c
  generalize h_fe : shpE = fe
  generalize h_fN : shpN = fN
  generalize h_fD : shpD = fD
  generalize h_fp : roomP = fp
  generalize h_fr : roomF = fr
  generalize h_fq : prdP = fq
  generalize h_fv : prdF = fv
  generalize h_gL : longF = gL
  obtain ⟨L, hL⟩ : ∃ L : Nat → Int, ∀ k, L k = longUp mc mh mw mx b k := ⟨_, fun _ => rfl⟩
  have HL := Lib.hid hL
  clear hL
  cbv
  (repeat' (first | apply And.intro | apply BrB.mk | apply BrP.mk | intro _))
  (all_goals try (exfalso; (subst hA; subst h_c; subst h_fe; subst h_fN; subst h_fD; subst h_fp; subst h_fr; subst h_fq; subst h_fv; subst h_gL); (try simp only [std, stdBin, stdCmp, stdUna, stdIn, ci, beq_iff_eq, bne_iff_ne, beq_eq_false_iff_ne, bne_eq_false_iff_eq, decide_eq_true_eq, decide_eq_false_iff_not, Bool.not_true, Bool.not_false, Bool.not_eq_true', Bool.not_eq_false', Bool.not_not, tn0, tn1, tn2, tn3] at *); first | omega | contradiction))
  all_goals try (refine loop_at Nat 44 (fun k => [(4, .v (.int .i64 0)), (9, .v (.int .i64 (L k))), (10, .any), (11, .any), (44, .v (.int .i64 (c k)))]) (fun k o => o) (fun k => k ≤ mx.ls.length ∧ allTo (roomI mc mh mw mx b) k = true) (fun k => mx.ls.length - k) 0 ?h0 ?hle ?round)
  case h0 => exact ⟨Nat.zero_le _, rfl⟩
  case hle =>
    cbv
    (repeat' (first | apply And.intro | apply BrB.mk | apply BrP.mk | intro _))
    (all_goals (subst hA; subst h_c; subst h_fe; subst h_fN; subst h_fD; subst h_fp; subst h_fr; subst h_fq; subst h_fv; subst h_gL); all_goals (have f_sm := SM.out; have f_sb := SB.out); all_goals (try simp only [std, stdBin, stdCmp, stdUna, stdIn, ci, beq_iff_eq, bne_iff_ne, beq_eq_false_iff_ne, bne_eq_false_iff_eq, decide_eq_true_eq, decide_eq_false_iff_not, Bool.not_true, Bool.not_false, Bool.not_eq_true', Bool.not_eq_false', Bool.not_not, tn0, tn1, tn2, tn3] at *); all_goals (try omega))
    all_goals first | exact True.intro | rfl | (rw [HL.out]; rfl) | trace_state
  case round =>
    rintro k ⟨hk, hE⟩
    cbv
    refine BrB.mk (fun gx => ?yx) (fun gx => ?nx)
    case yx =>
      (repeat' (first | apply And.intro | apply BrB.mk | apply BrP.mk | intro _))
      (all_goals try (exfalso; (subst hA; subst h_c; subst h_fe; subst h_fN; subst h_fD; subst h_fp; subst h_fr; subst h_fq; subst h_fv; subst h_gL); (try simp only [std, stdBin, stdCmp, stdUna, stdIn, ci, beq_iff_eq, bne_iff_ne, beq_eq_false_iff_ne, bne_eq_false_iff_eq, decide_eq_true_eq, decide_eq_false_iff_not, Bool.not_true, Bool.not_false, Bool.not_eq_true', Bool.not_eq_false', Bool.not_not, tn0, tn1, tn2, tn3] at *); first | omega | contradiction))
      all_goals try (refine ⟨k + 1, ?jI, ?jL, ?jM⟩)
      case jL =>
        cbv
        (repeat' (first | apply And.intro | apply BrB.mk | apply BrP.mk | intro _))
        (all_goals (subst hA; subst h_c; subst h_fe; subst h_fN; subst h_fD; subst h_fp; subst h_fr; subst h_fq; subst h_fv; subst h_gL); all_goals (have f_sm := SM.out; have f_sb := SB.out); all_goals (try simp only [std, stdBin, stdCmp, stdUna, stdIn, ci, beq_iff_eq, bne_iff_ne, beq_eq_false_iff_ne, bne_eq_false_iff_eq, decide_eq_true_eq, decide_eq_false_iff_not, Bool.not_true, Bool.not_false, Bool.not_eq_true', Bool.not_eq_false', Bool.not_not, tn0, tn1, tn2, tn3, longF, shpE, shpN, shpD, rowsD_at', rowsD_len, shp_len, roomF, roomP, prdF, prdP, Int.toNat_natCast] at *); all_goals (try omega))
        all_goals (have hkn : k < mx.ls.length := by omega)
        all_goals (have e1 : ((k : Int) + 1).toNat = k + 1 := by omega)
        all_goals (have e3 : (shp mc mh mw mx mx.ls.length).getD k [] = shT mc mh mw mx k := shp_at (by omega))
        all_goals (have e4 : (shp mc mh mw mx mx.ls.length).getD (k + 1) [] = shT mc mh mw mx (k + 1) := shp_at (by omega))
        all_goals (try simp only [e1, e3, e4] at *)
        all_goals first | exact True.intro | rfl | (rw [HL.out, HL.out]; rfl) | trace_state
      (all_goals (subst hA; subst h_c; subst h_fe; subst h_fN; subst h_fD; subst h_fp; subst h_fr; subst h_fq; subst h_fv; subst h_gL); all_goals (have f_sm := SM.out; have f_sb := SB.out); all_goals (try simp only [std, stdBin, stdCmp, stdUna, stdIn, ci, beq_iff_eq, bne_iff_ne, beq_eq_false_iff_ne, bne_eq_false_iff_eq, decide_eq_true_eq, decide_eq_false_iff_not, Bool.not_true, Bool.not_false, Bool.not_eq_true', Bool.not_eq_false', Bool.not_not, tn0, tn1, tn2, tn3, longF, shpE, shpN, shpD, rowsD_at', rowsD_len, shp_len, roomF, roomP, prdF, prdP, Int.toNat_natCast] at *); all_goals (try omega))
      all_goals (have hz : (shpR mc mh mw mx).2 = 0 := by assumption)
      all_goals (obtain ⟨hm, hS⟩ := shpR_ok hz)
      all_goals (obtain ⟨m1, m2, m3, m4, m5⟩ := mdl_of hm)
      all_goals (have hkn : k < mx.ls.length := by omega)
      all_goals (have e1 : ((k : Int) + 1).toNat = k + 1 := by omega)
      all_goals (have e3 : (shp mc mh mw mx mx.ls.length).getD k [] = shT mc mh mw mx k := shp_at (by omega))
      all_goals (have e4 : (shp mc mh mw mx mx.ls.length).getD (k + 1) [] = shT mc mh mw mx (k + 1) := shp_at (by omega))
      all_goals (have hl := lay_N (m5 k hkn))
      all_goals (try simp only [e1, e3, e4] at *)
      all_goals first
        | omega
        | exact ⟨hl, shT_may hm hS k (by omega), by omega, by omega⟩
        | exact ⟨hl, shT_may hm hS k (by omega), shT_may hm hS (k + 1) (by omega), fun h2 => shT_three h2, by omega, by omega⟩
        | (have hf : roomI mc mh mw mx b k = false := by assumption
           have hv : longR mc mh mw mx b = 0 := long_c (allTo_false hkn hf)
           (show Value.int .i64 _ = Value.int .i64 (longR mc mh mw mx b); rw [hv]; done))
        | (refine ⟨by omega, ?_⟩
           have hf : roomI mc mh mw mx b k = true := by assumption
           simp only [allTo, hE, hf, Bool.and_self])
        | trace_state
    case nx =>
      (repeat' (first | apply And.intro | apply BrB.mk | apply BrP.mk | intro _))
      (all_goals (subst hA; subst h_c; subst h_fe; subst h_fN; subst h_fD; subst h_fp; subst h_fr; subst h_fq; subst h_fv; subst h_gL); all_goals (have f_sm := SM.out; have f_sb := SB.out); all_goals (try simp only [std, stdBin, stdCmp, stdUna, stdIn, ci, beq_iff_eq, bne_iff_ne, beq_eq_false_iff_ne, bne_eq_false_iff_eq, decide_eq_true_eq, decide_eq_false_iff_not, Bool.not_true, Bool.not_false, Bool.not_eq_true', Bool.not_eq_false', Bool.not_not, tn0, tn1, tn2, tn3, longF, shpE, shpN, shpD, rowsD_at', rowsD_len, shp_len, Int.toNat_natCast] at *); all_goals (try omega))
      all_goals (have e5 : (shp mc mh mw mx mx.ls.length).getD mx.ls.length [] = shT mc mh mw mx mx.ls.length := shp_at (by omega))
      all_goals (simp only [e5] at *)
      all_goals (have e : k = mx.ls.length := by omega)
      all_goals (subst e)
      all_goals first
        | (have hv : longR mc mh mw mx b = longUp mc mh mw mx b mx.ls.length := long_d (by assumption) ⟨by omega, by omega⟩ ⟨by omega, by omega, by omega⟩ hE
           rw [HL.out]
           (show Value.int .i64 _ = Value.int .i64 (longR mc mh mw mx b); rw [hv]; done))
        | trace_state
  (all_goals (subst hA; subst h_c; subst h_fe; subst h_fN; subst h_fD; subst h_fp; subst h_fr; subst h_fq; subst h_fv; subst h_gL); all_goals (have f_sm := SM.out; have f_sb := SB.out); all_goals (try simp only [std, stdBin, stdCmp, stdUna, stdIn, ci, beq_iff_eq, bne_iff_ne, beq_eq_false_iff_ne, bne_eq_false_iff_eq, decide_eq_true_eq, decide_eq_false_iff_not, Bool.not_true, Bool.not_false, Bool.not_eq_true', Bool.not_eq_false', Bool.not_not, tn0, tn1, tn2, tn3, longF, shpE, shpN, shpD, rowsD_at', rowsD_len, shp_len, Int.toNat_natCast] at *); all_goals (try omega))
  all_goals (have e5 : (shp mc mh mw mx mx.ls.length).getD mx.ls.length [] = shT mc mh mw mx mx.ls.length := shp_at (by omega))
  all_goals (try simp only [e5] at *)
  all_goals first
    | omega
    | (have hv : longR mc mh mw mx b = 0 := long_a (by first | exact .inl (by assumption) | exact .inr (by omega))
       (show Value.int .i64 _ = Value.int .i64 (longR mc mh mw mx b); rw [hv]; done))
    | (have hv : longR mc mh mw mx b = 0 := long_b (by omega)
       (show Value.int .i64 _ = Value.int .i64 (longR mc mh mw mx b); rw [hv]; done))
    | trace_state
end Go.Proofs.Ytnjipnklbdlgaaa
