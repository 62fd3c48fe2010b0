/- Layer 17: weights at first: of a layer. -/
import Derived.Test.YtnjipnklbdlgaaaChkK
import Derived.Test.YtnjipnklbdlgaaaPermR
namespace Go.Proofs.Ytnjipnklbdlgaaa
open Go.RowKit
set_option maxRecDepth 1000000
set_option linter.unusedSimpArgs false
set_option linter.unusedVariables false
set_option maxHeartbeats 16000000
set_option cbv.maxSteps 10000000
abbrev prmTy : Ty := .st [.st [.sl (.int .i64), .int .i64, .sl (.int .i8)], .sl (.int .i32), .st [.sl (.int .i64), .int .i64, .sl (.int .i8)]]
theorem argSV_prm {a : AV} {x : SV} (h : argSV prmTy a = some x) : ∃ (v_D : List Int) (v_E : Int) (v_L : List Int) (v_M : List Int) (v_F : List Int) (v_G : Int) (v_H : List Int), a = .st [.st [.l v_D, .z v_E, .l v_L], .l v_M, .st [.l v_F, .z v_G, .l v_H]] ∧ x = .agg [.iimm .i64 v_D, .v (.int .i64 v_E), .iimm .i8 v_L, .iimm .i32 v_M, .iimm .i64 v_F, .v (.int .i64 v_G), .iimm .i8 v_H] := by
  obtain ⟨as0, l0, rfl, rfl, h0⟩ := argSV_st h
  obtain ⟨a1, as1, x1, m1, rfl, rfl, p1, h1⟩ := svAVs_cons h0
  obtain ⟨bs1, rfl, q1⟩ := svAV_st p1
  obtain ⟨a2, as2, x2, m2, rfl, rfl, p2, h2⟩ := svAVs_cons q1
  obtain ⟨v_D, rfl, rfl⟩ := svAV_ints p2
  obtain ⟨a3, as3, x3, m3, rfl, rfl, p3, h3⟩ := svAVs_cons h2
  obtain ⟨v_E, rfl, rfl⟩ := svAV_int p3
  obtain ⟨a4, as4, x4, m4, rfl, rfl, p4, h4⟩ := svAVs_cons h3
  obtain ⟨v_L, rfl, rfl⟩ := svAV_ints p4
  obtain ⟨rfl, rfl⟩ := svAVs_nil h4
  obtain ⟨a5, as5, x5, m5, rfl, rfl, p5, h5⟩ := svAVs_cons h1
  obtain ⟨v_M, rfl, rfl⟩ := svAV_ints p5
  obtain ⟨a6, as6, x6, m6, rfl, rfl, p6, h6⟩ := svAVs_cons h5
  obtain ⟨bs6, rfl, q6⟩ := svAV_st p6
  obtain ⟨a7, as7, x7, m7, rfl, rfl, p7, h7⟩ := svAVs_cons q6
  obtain ⟨v_F, rfl, rfl⟩ := svAV_ints p7
  obtain ⟨a8, as8, x8, m8, rfl, rfl, p8, h8⟩ := svAVs_cons h7
  obtain ⟨v_G, rfl, rfl⟩ := svAV_int p8
  obtain ⟨a9, as9, x9, m9, rfl, rfl, p9, h9⟩ := svAVs_cons h8
  obtain ⟨v_H, rfl, rfl⟩ := svAV_ints p9
  obtain ⟨rfl, rfl⟩ := svAVs_nil h9
  obtain ⟨rfl, rfl⟩ := svAVs_nil h6
  exact ⟨v_D, v_E, v_L, v_M, v_F, v_G, v_H, rfl, rfl⟩
theorem svf_prm {v_D : List Int} {v_E : Int} {v_L : List Int} {v_M : List Int} {v_F : List Int} {v_G : Int} {v_H : List Int} (h : SVf (.agg [.iimm .i64 v_D, .v (.int .i64 v_E), .iimm .i8 v_L, .iimm .i32 v_M, .iimm .i64 v_F, .v (.int .i64 v_G), .iimm .i8 v_H])) : (Fits .i64 v_D ∧ ci v_D.length ≤ 9223372036854775807) ∧ (-9223372036854775808 ≤ v_E ∧ v_E ≤ 9223372036854775807) ∧ (Fits .i8 v_L ∧ ci v_L.length ≤ 9223372036854775807) ∧ (Fits .i32 v_M ∧ ci v_M.length ≤ 9223372036854775807) ∧ (Fits .i64 v_F ∧ ci v_F.length ≤ 9223372036854775807) ∧ (-9223372036854775808 ≤ v_G ∧ v_G ≤ 9223372036854775807) ∧ (Fits .i8 v_H ∧ ci v_H.length ≤ 9223372036854775807) := by
  exact ⟨svf_ints (h (.iimm .i64 v_D) (by simp)), of_i64 (h (.v (.int .i64 v_E)) (by simp)), svf_ints (h (.iimm .i8 v_L) (by simp)), svf_ints (h (.iimm .i32 v_M) (by simp)), svf_ints (h (.iimm .i64 v_F) (by simp)), of_i64 (h (.v (.int .i64 v_G)) (by simp)), svf_ints (h (.iimm .i8 v_H) (by simp))⟩
/-- A layer's weights. -/
structure Wp where
  d : List Int
  e : Int
  l : List Int
  m : List Int
  f : List Int
  g : Int
  h : List Int
def noW : Wp := ⟨[], 0, [], [], [], 0, []⟩
def zeO (D : List Int) (e : Int) : Bool := mayD D && decide (-64 ≤ e ∧ e ≤ 64)
def zeE (xa : List AV) : Int := match xa with
  | [.l D, .z e] => if zeO D e = true then 0 else 1
  | _ => 0
def zeR (xa : List AV) : Tn := match xa with
  | [.l D, .z e] => if zeO D e = true then ⟨D, e, List.replicate (szD D).toNat 0⟩ else ⟨[], 0, []⟩
  | _ => ⟨[], 0, []⟩
theorem tzero_ok : CtrOk Try.prog 66 (resU [.sl (.int .i64), .int .i64] .i8 3 58 zeE zeR) := by
  obtain ⟨G, hG⟩ : ∃ G : List (FuncId × Ctr), G = [(33, boolC [.sl (.int .i64)] shMayF), (31, rowP [.sl (.int .i64)] 3 .i64 (lenP 8) sameL), (61, intC [.sl (.int .i64)] .i64 szF)] := ⟨_, rfl⟩
  refine fn_inl (ck := true) [(76, Try.f76)] ⟨⟨Try.func76, by unfold FnOk; kernel_rfl, by kernel_rfl⟩, trivial⟩ Try.func66 rfl tt_ok (G := G) (by rw [hG]; exact ⟨⟨shMay_ok, by unfold FnOk; kernel_rfl⟩, ⟨cloneI_ok, by unfold FnOk; kernel_rfl⟩, ⟨size_ok, by unfold FnOk; kernel_rfl⟩, trivial⟩) mixed (by kernel_rfl) ?_
  intro xa xs h hx hp
  obtain ⟨a0, as0, x0, xs0, rfl, rfl, h0, H1⟩ := svArgs_cons h
  obtain ⟨a1, as1, x1, xs1, rfl, rfl, h1, H2⟩ := svArgs_cons H1
  obtain ⟨rfl, rfl⟩ := svArgs_nil H2
  obtain ⟨D, rfl, rfl⟩ := argSV_ints h0
  obtain ⟨e, rfl, rfl⟩ := argSV_int h1
  have sD : Fits .i64 D ∧ ci D.length ≤ 9223372036854775807 := svf_ints (hx (.iimm .i64 D) (by simp))
  have se := of_i64 (hx (.v (.int .i64 e)) (by simp))
  have SD := Lib.hid sD
  clear sD
  have SE := Lib.hid se
  clear se
  clear hx hp h h0 H1 h1 H2
  generalize hA : std = A
  subst hG
  generalize h_c : ci = c
  generalize h_fd : shMayF = fd
  generalize h_fl : lenP 8 = fl
  generalize h_fs : sameL = fs
  generalize h_fz : szF = fz
  generalize h_fE : zeE = fE
  generalize h_fR : zeR = fR
  cbv
  (repeat' (first | apply And.intro | apply BrB.mk | apply BrP.mk | intro _))
  (all_goals (subst hA; subst h_c; subst h_fd; subst h_fl; subst h_fs; subst h_fz; subst h_fE; subst h_fR); all_goals (have f_sd := SD.out; have f_se := SE.out); all_goals (try simp only [std, stdBin, stdCmp, stdUna, stdIn, ci, beq_iff_eq, bne_iff_ne, beq_eq_false_iff_ne, bne_eq_false_iff_eq, decide_eq_true_eq, decide_eq_false_iff_not, Bool.not_true, Bool.not_false, Bool.not_eq_true', Bool.not_eq_false', Bool.not_not, tn0, tn1, tn2, tn3, shMayF, lenP, sameL, szF, zeE, zeR] at *); all_goals (try omega))
  all_goals (have zi := szD_in D)
  all_goals first
    | omega
    | (have hm := mayD_len (by assumption : mayD D = true); omega)
    | (have hz : zeO D e = true := (by unfold zeO; rw [Bool.and_eq_true, decide_eq_true_eq]; exact ⟨by assumption, by omega⟩)
       simp [hz]; done)
    | (have hz : zeO D e = false := (by unfold zeO; rw [Bool.and_eq_false_iff, decide_eq_false_iff_not]; first | exact .inl (by assumption) | exact .inr (by omega))
       simp [hz]; done)
    | trace_state
def wpP (ts : List Ty) (tI t8 t32 : TypeId) (err : List AV → Int) (r : List AV → Wp) : Ctr :=
  ⟨ts, fun _ => none, fun xa => .ret (.tup [.agg [.hdl 0, .v (.int .i64 (r xa).e), .hdl 1, .hdl 2, .hdl 3, .v (.int .i64 (r xa).g), .hdl 4], .v (.int .i64 (err xa))]) [(0, .irow tI .i64 (r xa).d), (2, .irow t8 .i8 (r xa).l), (3, .irow t32 .i32 (r xa).m), (4, .irow tI .i64 (r xa).f), (6, .irow t8 .i8 (r xa).h)], false⟩
theorem pdims_ok : CtrOk Try.prog 51 (rowP [layTy, .sl (.int .i64)] 3 .i64 dmP dmVF) := by
  obtain ⟨G, hG⟩ : ∃ G : List (FuncId × Ctr), G = [] := ⟨_, rfl⟩
  refine fn_ok (ck := true) Try.func51 rfl tt_ok (G := G) (by rw [hG]; exact trivial) mixed (by kernel_rfl) ?_
  intro xa xs h hx hp
  obtain ⟨a0, as0, x0, xs0, rfl, rfl, h0, H1⟩ := svArgs_cons h
  obtain ⟨a1, as1, x1, xs1, rfl, rfl, h1, H2⟩ := svArgs_cons H1
  obtain ⟨rfl, rfl⟩ := svArgs_nil H2
  obtain ⟨lk, lo, lw, ls, lp, lf, lz, rfl, rfl⟩ := argSV_lay h0
  obtain ⟨t, rfl, rfl⟩ := argSV_ints h1
  have sl : (-9223372036854775808 ≤ lk ∧ lk ≤ 9223372036854775807) ∧ (-9223372036854775808 ≤ lo ∧ lo ≤ 9223372036854775807) ∧ (-9223372036854775808 ≤ lw ∧ lw ≤ 9223372036854775807) ∧ (-9223372036854775808 ≤ ls ∧ ls ≤ 9223372036854775807) ∧ (-9223372036854775808 ≤ lp ∧ lp ≤ 9223372036854775807) ∧ (-9223372036854775808 ≤ lf ∧ lf ≤ 9223372036854775807) := svf_lay (hx (.agg [.v (.int .i64 lk), .v (.int .i64 lo), .v (.int .i64 lw), .v (.int .i64 ls), .v (.int .i64 lp), .v (.int .i64 lf), .v (.bool lz)]) (List.mem_of_getElem? (i := 0) rfl))
  have st : Fits .i64 t ∧ ci t.length ≤ 9223372036854775807 := svf_ints (hx (.iimm .i64 t) (by simp))
  have SL := Lib.hid sl
  clear sl
  have ST := Lib.hid st
  clear st
  have HP := Lib.hid (hp _ rfl)
  clear hx hp h h0 H1 h1 H2
  generalize hA : std = A
  subst hG
  generalize h_c : ci = c
  generalize h_fp : dmP = fp
  generalize h_fv : dmVF = fv
  cbv
  (repeat' (first | apply And.intro | apply BrB.mk | apply BrP.mk | intro _))
  (all_goals (subst hA; subst h_c; subst h_fp; subst h_fv); all_goals (have f_sl := SL.out; have f_st := ST.out; have f_hp := HP.out); all_goals (try simp only [std, stdBin, stdCmp, stdUna, stdIn, ci, beq_iff_eq, bne_iff_ne, beq_eq_false_iff_ne, bne_eq_false_iff_eq, decide_eq_true_eq, decide_eq_false_iff_not, Bool.not_true, Bool.not_false, Bool.not_eq_true', Bool.not_eq_false', Bool.not_not, tn0, tn1, tn2, tn3, dmVF, dmP, dmV] at *); all_goals (try omega))
  all_goals (have q : 1 ≤ t.length := f_hp)
  all_goals first | omega | (simp_all; done) | trace_state
/-- A weight at first. -/
def w0I (s y : Int) (i : Nat) : Int := belowB (bv s) (bv y) (bv (IntKind.u64.wrap (i : Int))) 63 - 31
theorem w0_in (s y : Int) (i : Nat) : -31 ≤ w0I s y i ∧ w0I s y i ≤ 31 := by
  have := belowB_lo (bv s) (bv y) (bv (IntKind.u64.wrap (i : Int))) 63 (by decide) (by decide)
  unfold w0I
  omega
def ipV (D : List Int) (s y : Int) : Wp := ⟨D, -7, (List.range (szD D).toNat).map (w0I s y), List.replicate (szD D).toNat 0, [D.getD 0 0], -7, List.replicate (D.getD 0 0).toNat 0⟩
def ipE (xa : List AV) : Int := match xa with
  | [.l D, .z s, .z y] => if mayD D = true then 0 else 1
  | _ => 0
def ipR (xa : List AV) : Wp := match xa with
  | [.l D, .z s, .z y] => if mayD D = true then ipV D s y else noW
  | _ => noW
theorem head_of {D : List Int} (h : mayD D = true) : (D.drop (0 : Int).toNat).take (1 : Int).toNat = [D.getD 0 0] := by
  have := mayD_len h
  match D, this with
  | a :: D, _ => rfl
theorem zeO_7 (D : List Int) : zeO D (-7) = mayD D := by unfold zeO; simp
theorem head_of2 {D : List Int} (h : mayD D = true) : List.take ((1 : Int) - 0).toNat (List.drop 0 D) = [D.getD 0 0] := head_of h
theorem head_may {D : List Int} (h : mayD D = true) : mayD [D.getD 0 0] = true ∧ szD [D.getD 0 0] = D.getD 0 0 := by
  have h1 := mayD_len h
  have h2 := mayD_at h (i := 0) (by omega)
  have h3 : mayD [D.getD 0 0] = true := (mayD_iff _).2 ⟨by simp, by simpa using h2, by simp only [prodFrom, List.foldl, Int.one_mul]; omega⟩
  refine ⟨h3, ?_⟩
  unfold szD
  rw [if_pos h3]
  simp [prodFrom]
theorem pinit_ok : CtrOk Try.prog 50 (wpP [.sl (.int .i64), .int .u64, .int .u64] 3 58 21 ipE ipR) := by
  obtain ⟨G, hG⟩ : ∃ G : List (FuncId × Ctr), G = [(66, resU [.sl (.int .i64), .int .i64] .i8 3 58 zeE zeR), (26, intC [.int .u64, .int .u64, .int .u64, .int .i64] .i64 blwF)] := ⟨_, rfl⟩
  refine fn_ok (ck := true) Try.func50 rfl tt_ok (G := G) (by rw [hG]; exact ⟨⟨tzero_ok, by unfold FnOk; kernel_rfl⟩, ⟨blw_ok, by unfold FnOk; kernel_rfl⟩, trivial⟩) mixed (by kernel_rfl) ?_
  intro xa xs h hx hp
  obtain ⟨a0, as0, x0, xs0, rfl, rfl, h0, H1⟩ := svArgs_cons h
  obtain ⟨a1, as1, x1, xs1, rfl, rfl, h1, H2⟩ := svArgs_cons H1
  obtain ⟨a2, as2, x2, xs2, rfl, rfl, h2, H3⟩ := svArgs_cons H2
  obtain ⟨rfl, rfl⟩ := svArgs_nil H3
  obtain ⟨D, rfl, rfl⟩ := argSV_ints h0
  obtain ⟨s, rfl, rfl⟩ := argSV_int h1
  obtain ⟨y, rfl, rfl⟩ := argSV_int h2
  have sD : Fits .i64 D ∧ ci D.length ≤ 9223372036854775807 := svf_ints (hx (.iimm .i64 D) (by simp))
  have ss : (Lit.int .u64 s).wf = true := (hx (.v (.int .u64 s)) (by simp))
  have sy : (Lit.int .u64 y).wf = true := (hx (.v (.int .u64 y)) (by simp))
  have SD := Lib.hid sD
  clear sD
  have SS := Lib.hid ss
  clear ss
  have SY := Lib.hid sy
  clear sy
  clear hx hp h h0 H1 h1 H2 h2 H3
  generalize hA : std = A
  subst hG
  generalize h_c : ci = c
  generalize h_fz : zeR = fz
  generalize h_fe : zeE = fe
  generalize h_fb : blwF = fb
  generalize h_fE : ipE = fE
  generalize h_fR : ipR = fR
  obtain ⟨S, hS⟩ : ∃ S : Nat → List Int, ∀ x, S x = mixL (fun _ => 0) (w0I s y) (szD D).toNat x := ⟨_, fun _ => rfl⟩
  have HSS := Lib.hid hS
  clear hS
  cbv
  (repeat' (first | apply And.intro | apply BrB.mk | apply BrP.mk | intro _))
  all_goals try (refine loop_at Nat 24 (fun x => [(10, .any), (24, .v (.int .i64 (c x)))]) (fun x o => o.set 2 (.irow 58 .i8 (S x))) (fun x => x ≤ (szD D).toNat) (fun x => (szD D).toNat - x) 0 (Nat.zero_le _) ?_ ?_
                 focus
                   show AS.le _ _
                   cbv
                   (repeat' (first | apply And.intro | apply BrB.mk | apply BrP.mk | intro _))
                   (all_goals (subst hA; subst h_c; subst h_fz; subst h_fe; subst h_fb; subst h_fE; subst h_fR); all_goals (have f_sd := SD.out; have f_ss := SS.out; have f_sy := SY.out); all_goals (try simp only [std, stdBin, stdCmp, stdUna, stdIn, ci, beq_iff_eq, bne_iff_ne, beq_eq_false_iff_ne, bne_eq_false_iff_eq, decide_eq_true_eq, decide_eq_false_iff_not, Bool.not_true, Bool.not_false, Bool.not_eq_true', Bool.not_eq_false', Bool.not_not, tn0, tn1, tn2, tn3, zeE, zeR, zeO_7] at *); all_goals (try omega))
                   all_goals (have hz : mayD D = true := (by cases h : mayD D <;> simp_all))
                   all_goals first | exact True.intro | rfl | (rw [HSS.out, mixL_nil, if_pos hz]; done) | (simp only [hz, if_true]; rw [HSS.out, mixL_nil]; done)
                   done)
  all_goals try (intro x hx; cbv; refine BrB.mk (fun gx => ?_) (fun gx => ?_))
  all_goals (repeat' (first | apply And.intro | apply BrB.mk | apply BrP.mk | intro _))
  all_goals try (refine ⟨x + 1, ?_, ?_, ?_⟩)
  all_goals try (show AS.le _ _; cbv; (repeat' (first | apply And.intro | apply BrB.mk | apply BrP.mk | intro _)))
  (all_goals (subst hA; subst h_c; subst h_fz; subst h_fe; subst h_fb; subst h_fE; subst h_fR); all_goals (have f_sd := SD.out; have f_ss := SS.out; have f_sy := SY.out); all_goals (try simp only [std, stdBin, stdCmp, stdUna, stdIn, ci, beq_iff_eq, bne_iff_ne, beq_eq_false_iff_ne, bne_eq_false_iff_eq, decide_eq_true_eq, decide_eq_false_iff_not, Bool.not_true, Bool.not_false, Bool.not_eq_true', Bool.not_eq_false', Bool.not_not, tn0, tn1, tn2, tn3, zeE, zeR, zeO_7, blwF, ipE, ipR, Int.toNat_natCast] at *); all_goals (try omega))
  all_goals (try first | exact True.intro | exact congrArg (Value.int .i64) (Int.natCast_succ _).symm | omega)
  all_goals (have zi := szD_in D; have sl : ∀ i, (S i).length = (szD D).toNat := (fun i => by rw [HSS.out, mixL_len]))
  all_goals (by_cases hm : mayD D = true)
  all_goals try (have ml := mayD_len hm
                 obtain ⟨hm1, hm2⟩ := head_may hm
                 have hd := head_of2 hm
                 have b1 : ∀ x : Nat, belowB (bv s) (bv y) (bv (IntKind.u64.wrap (x : Int))) 63 - 31 = w0I s y x := fun _ => rfl
                 simp only [hm, hd, hm1, hm2, sl, b1, if_true, ipV, ne_eq, List.length_replicate, not_true_eq_false] at *)
  all_goals try (have hm2 : mayD D = false := Bool.eq_false_iff.2 hm
                 simp only [hm2, if_false, Bool.false_eq_true, noW] at *)
  all_goals first
         | omega
         | (have w3 := w0_in s y x; first | omega | (show _ = S (x + 1); rw [HSS.out, HSS.out]; refine mixL_store (by omega) ?_; rw [w8 (by omega) (by omega)]; done))
         | (rw [HSS.out, show x = (szD D).toNat by omega, mixL_all]; done)
         | contradiction
         | (exfalso; omega)
         | rfl
         | trace_state
end Go.Proofs.Ytnjipnklbdlgaaa
