/- Layer 17: weights at first: of a layer. -/
import Derived.Test.YtnjipnklbdlgaaaChkI
import Derived.Test.YtnjipnklbdlgaaaPermR
import Derived.Test.YtnjipnklbdlgaaaFrzR
namespace Go.Proofs.Ytnjipnklbdlgaaa
open Go.RowKit
set_option maxRecDepth 1000000
set_option linter.unusedSimpArgs false
set_option linter.unusedVariables false
set_option maxHeartbeats 16000000
set_option cbv.maxSteps 10000000
abbrev prmTy : Ty := .st [.st [.sl (.int .i64), .int .i64, .sl (.int .i8)], .sl (.int .i32), .st [.sl (.int .i64), .int .i64, .sl (.int .i8)]]
theorem argSV_prm {a : AV} {x : SV} (h : argSV prmTy a = some x) : ∃ (v_D : List Int) (v_E : Int) (v_L : List Int) (v_M : List Int) (v_F : List Int) (v_G : Int) (v_H : List Int), a = .st [.st [.l v_D, .z v_E, .l v_L], .l v_M, .st [.l v_F, .z v_G, .l v_H]] ∧ x = .agg [.iimm .i64 v_D, .v (.int .i64 v_E), .iimm .i8 v_L, .iimm .i32 v_M, .iimm .i64 v_F, .v (.int .i64 v_G), .iimm .i8 v_H] := by
  obtain ⟨as0, l0, rfl, rfl, h0⟩ := argSV_st h
  obtain ⟨a1, as1, x1, m1, rfl, rfl, p1, h1⟩ := svAVs_cons h0
  obtain ⟨bs1, rfl, q1⟩ := svAV_st p1
  obtain ⟨a2, as2, x2, m2, rfl, rfl, p2, h2⟩ := svAVs_cons q1
  obtain ⟨v_D, rfl, rfl⟩ := svAV_ints p2
  obtain ⟨a3, as3, x3, m3, rfl, rfl, p3, h3⟩ := svAVs_cons h2
  obtain ⟨v_E, rfl, rfl⟩ := svAV_int p3
  obtain ⟨a4, as4, x4, m4, rfl, rfl, p4, h4⟩ := svAVs_cons h3
  obtain ⟨v_L, rfl, rfl⟩ := svAV_ints p4
  obtain ⟨rfl, rfl⟩ := svAVs_nil h4
  obtain ⟨a5, as5, x5, m5, rfl, rfl, p5, h5⟩ := svAVs_cons h1
  obtain ⟨v_M, rfl, rfl⟩ := svAV_ints p5
  obtain ⟨a6, as6, x6, m6, rfl, rfl, p6, h6⟩ := svAVs_cons h5
  obtain ⟨bs6, rfl, q6⟩ := svAV_st p6
  obtain ⟨a7, as7, x7, m7, rfl, rfl, p7, h7⟩ := svAVs_cons q6
  obtain ⟨v_F, rfl, rfl⟩ := svAV_ints p7
  obtain ⟨a8, as8, x8, m8, rfl, rfl, p8, h8⟩ := svAVs_cons h7
  obtain ⟨v_G, rfl, rfl⟩ := svAV_int p8
  obtain ⟨a9, as9, x9, m9, rfl, rfl, p9, h9⟩ := svAVs_cons h8
  obtain ⟨v_H, rfl, rfl⟩ := svAV_ints p9
  obtain ⟨rfl, rfl⟩ := svAVs_nil h9
  obtain ⟨rfl, rfl⟩ := svAVs_nil h6
  exact ⟨v_D, v_E, v_L, v_M, v_F, v_G, v_H, rfl, rfl⟩
theorem svf_prm {v_D : List Int} {v_E : Int} {v_L : List Int} {v_M : List Int} {v_F : List Int} {v_G : Int} {v_H : List Int} (h : SVf (.agg [.iimm .i64 v_D, .v (.int .i64 v_E), .iimm .i8 v_L, .iimm .i32 v_M, .iimm .i64 v_F, .v (.int .i64 v_G), .iimm .i8 v_H])) : (Fits .i64 v_D ∧ ci v_D.length ≤ 9223372036854775807) ∧ (-9223372036854775808 ≤ v_E ∧ v_E ≤ 9223372036854775807) ∧ (Fits .i8 v_L ∧ ci v_L.length ≤ 9223372036854775807) ∧ (Fits .i32 v_M ∧ ci v_M.length ≤ 9223372036854775807) ∧ (Fits .i64 v_F ∧ ci v_F.length ≤ 9223372036854775807) ∧ (-9223372036854775808 ≤ v_G ∧ v_G ≤ 9223372036854775807) ∧ (Fits .i8 v_H ∧ ci v_H.length ≤ 9223372036854775807) := by
  exact ⟨svf_ints (h (.iimm .i64 v_D) (by simp)), of_i64 (h (.v (.int .i64 v_E)) (by simp)), svf_ints (h (.iimm .i8 v_L) (by simp)), svf_ints (h (.iimm .i32 v_M) (by simp)), svf_ints (h (.iimm .i64 v_F) (by simp)), of_i64 (h (.v (.int .i64 v_G)) (by simp)), svf_ints (h (.iimm .i8 v_H) (by simp))⟩
/-- A layer's weights. -/
structure Wp where
  d : List Int
  e : Int
  l : List Int
  m : List Int
  f : List Int
  g : Int
  h : List Int
def noW : Wp := ⟨[], 0, [], [], [], 0, []⟩
def zeO (D : List Int) (e : Int) : Bool := mayD D && decide (-64 ≤ e ∧ e ≤ 64)
def zeE (xa : List AV) : Int := match xa with
  | [.l D, .z e] => if zeO D e = true then 0 else 1
  | _ => 0
def zeR (xa : List AV) : Tn := match xa with
  | [.l D, .z e] => if zeO D e = true then ⟨D, e, List.replicate (szD D).toNat 0⟩ else ⟨[], 0, []⟩
  | _ => ⟨[], 0, []⟩
theorem tzero_ok : CtrOk Try.prog 66 (resU [.sl (.int .i64), .int .i64] .i8 3 58 zeE zeR) := by
  obtain ⟨G, hG⟩ : ∃ G : List (FuncId × Ctr), G = [(33, boolC [.sl (.int .i64)] shMayF), (31, rowP [.sl (.int .i64)] 3 .i64 (lenP 8) sameL), (61, intC [.sl (.int .i64)] .i64 szF)] := ⟨_, rfl⟩
  refine fn_inl (ck := true) [(76, Try.f76)] ⟨⟨Try.func76, by unfold FnOk; kernel_rfl, by kernel_rfl⟩, trivial⟩ Try.func66 rfl tt_ok (G := G) (by rw [hG]; exact ⟨⟨shMay_ok, by unfold FnOk; kernel_rfl⟩, ⟨cloneI_ok, by unfold FnOk; kernel_rfl⟩, ⟨size_ok, by unfold FnOk; kernel_rfl⟩, trivial⟩) mixed (by kernel_rfl) ?_
  intro xa xs h hx hp
  obtain ⟨a0, as0, x0, xs0, rfl, rfl, h0, H1⟩ := svArgs_cons h
  obtain ⟨a1, as1, x1, xs1, rfl, rfl, h1, H2⟩ := svArgs_cons H1
  obtain ⟨rfl, rfl⟩ := svArgs_nil H2
  obtain ⟨D, rfl, rfl⟩ := argSV_ints h0
  obtain ⟨e, rfl, rfl⟩ := argSV_int h1
  have sD : Fits .i64 D ∧ ci D.length ≤ 9223372036854775807 := svf_ints (hx (.iimm .i64 D) (by simp))
  have se := of_i64 (hx (.v (.int .i64 e)) (by simp))
  have SD := Lib.hid sD
  clear sD
  have SE := Lib.hid se
  clear se
  clear hx hp h h0 H1 h1 H2
  generalize hA : std = A
  subst hG
  generalize h_c : ci = c
  generalize h_fd : shMayF = fd
  generalize h_fl : lenP 8 = fl
  generalize h_fs : sameL = fs
  generalize h_fz : szF = fz
  generalize h_fE : zeE = fE
  generalize h_fR : zeR = fR
  cbv
  (repeat' (first | apply And.intro | apply BrB.mk | apply BrP.mk | intro _))
  (all_goals (subst hA; subst h_c; subst h_fd; subst h_fl; subst h_fs; subst h_fz; subst h_fE; subst h_fR); all_goals (have f_sd := SD.out; have f_se := SE.out); all_goals (try simp only [std, stdBin, stdCmp, stdUna, stdIn, ci, beq_iff_eq, bne_iff_ne, beq_eq_false_iff_ne, bne_eq_false_iff_eq, decide_eq_true_eq, decide_eq_false_iff_not, Bool.not_true, Bool.not_false, Bool.not_eq_true', Bool.not_eq_false', Bool.not_not, tn0, tn1, tn2, tn3, shMayF, lenP, sameL, szF, zeE, zeR] at *); all_goals (try omega))
  all_goals (have zi := szD_in D)
  all_goals first
    | omega
    | (have hm := mayD_len (by assumption : mayD D = true); omega)
    | (have hz : zeO D e = true := (by unfold zeO; rw [Bool.and_eq_true, decide_eq_true_eq]; exact ⟨by assumption, by omega⟩)
       simp [hz]; done)
    | (have hz : zeO D e = false := (by unfold zeO; rw [Bool.and_eq_false_iff, decide_eq_false_iff_not]; first | exact .inl (by assumption) | exact .inr (by omega))
       simp [hz]; done)
    | trace_state
def wpP (ts : List Ty) (tI t8 t32 : TypeId) (err : List AV → Int) (r : List AV → Wp) : Ctr :=
  ⟨ts, fun _ => none, fun xa => .ret (.tup [.agg [.hdl 0, .v (.int .i64 (r xa).e), .hdl 1, .hdl 2, .hdl 3, .v (.int .i64 (r xa).g), .hdl 4], .v (.int .i64 (err xa))]) [(0, .irow tI .i64 (r xa).d), (2, .irow t8 .i8 (r xa).l), (3, .irow t32 .i32 (r xa).m), (4, .irow tI .i64 (r xa).f), (6, .irow t8 .i8 (r xa).h)], false⟩
theorem pdims_ok : CtrOk Try.prog 51 (rowP [layTy, .sl (.int .i64)] 3 .i64 dmP dmVF) := by
  obtain ⟨G, hG⟩ : ∃ G : List (FuncId × Ctr), G = [] := ⟨_, rfl⟩
  refine fn_ok (ck := true) Try.func51 rfl tt_ok (G := G) (by rw [hG]; exact trivial) mixed (by kernel_rfl) ?_
  intro xa xs h hx hp
  obtain ⟨a0, as0, x0, xs0, rfl, rfl, h0, H1⟩ := svArgs_cons h
  obtain ⟨a1, as1, x1, xs1, rfl, rfl, h1, H2⟩ := svArgs_cons H1
  obtain ⟨rfl, rfl⟩ := svArgs_nil H2
  obtain ⟨lk, lo, lw, ls, lp, lf, lz, rfl, rfl⟩ := argSV_lay h0
  obtain ⟨t, rfl, rfl⟩ := argSV_ints h1
  have sl : (-9223372036854775808 ≤ lk ∧ lk ≤ 9223372036854775807) ∧ (-9223372036854775808 ≤ lo ∧ lo ≤ 9223372036854775807) ∧ (-9223372036854775808 ≤ lw ∧ lw ≤ 9223372036854775807) ∧ (-9223372036854775808 ≤ ls ∧ ls ≤ 9223372036854775807) ∧ (-9223372036854775808 ≤ lp ∧ lp ≤ 9223372036854775807) ∧ (-9223372036854775808 ≤ lf ∧ lf ≤ 9223372036854775807) := svf_lay (hx (.agg [.v (.int .i64 lk), .v (.int .i64 lo), .v (.int .i64 lw), .v (.int .i64 ls), .v (.int .i64 lp), .v (.int .i64 lf), .v (.bool lz)]) (List.mem_of_getElem? (i := 0) rfl))
  have st : Fits .i64 t ∧ ci t.length ≤ 9223372036854775807 := svf_ints (hx (.iimm .i64 t) (by simp))
  have SL := Lib.hid sl
  clear sl
  have ST := Lib.hid st
  clear st
  have HP := Lib.hid (hp _ rfl)
  clear hx hp h h0 H1 h1 H2
  generalize hA : std = A
  subst hG
  generalize h_c : ci = c
  generalize h_fp : dmP = fp
  generalize h_fv : dmVF = fv
  cbv
  (repeat' (first | apply And.intro | apply BrB.mk | apply BrP.mk | intro _))
  (all_goals (subst hA; subst h_c; subst h_fp; subst h_fv); all_goals (have f_sl := SL.out; have f_st := ST.out; have f_hp := HP.out); all_goals (try simp only [std, stdBin, stdCmp, stdUna, stdIn, ci, beq_iff_eq, bne_iff_ne, beq_eq_false_iff_ne, bne_eq_false_iff_eq, decide_eq_true_eq, decide_eq_false_iff_not, Bool.not_true, Bool.not_false, Bool.not_eq_true', Bool.not_eq_false', Bool.not_not, tn0, tn1, tn2, tn3, dmVF, dmP, dmV] at *); all_goals (try omega))
  all_goals (have q : 1 ≤ t.length := f_hp)
  all_goals first | omega | (simp_all; done) | trace_state
/-- A weight at first. -/
def w0I (s y : Int) (i : Nat) : Int := belowB (bv s) (bv y) (bv (IntKind.u64.wrap (i : Int))) 63 - 31
theorem w0_in (s y : Int) (i : Nat) : -31 ≤ w0I s y i ∧ w0I s y i ≤ 31 := by
  have := belowB_lo (bv s) (bv y) (bv (IntKind.u64.wrap (i : Int))) 63 (by decide) (by decide)
  unfold w0I
  omega
def ipV (D : List Int) (s y : Int) : Wp := ⟨D, -7, (List.range (szD D).toNat).map (w0I s y), List.replicate (szD D).toNat 0, [D.getD 0 0], -7, List.replicate (D.getD 0 0).toNat 0⟩
def ipE (xa : List AV) : Int := match xa with
  | [.l D, .z s, .z y] => if mayD D = true then 0 else 1
  | _ => 0
def ipR (xa : List AV) : Wp := match xa with
  | [.l D, .z s, .z y] => if mayD D = true then ipV D s y else noW
  | _ => noW
theorem head_of {D : List Int} (h : mayD D = true) : (D.drop (0 : Int).toNat).take (1 : Int).toNat = [D.getD 0 0] := by
  have := mayD_len h
  match D, this with
  | a :: D, _ => rfl
theorem zeO_7 (D : List Int) : zeO D (-7) = mayD D := by unfold zeO; simp
theorem head_of2 {D : List Int} (h : mayD D = true) : List.take ((1 : Int) - 0).toNat (List.drop 0 D) = [D.getD 0 0] := head_of h
theorem head_may {D : List Int} (h : mayD D = true) : mayD [D.getD 0 0] = true ∧ szD [D.getD 0 0] = D.getD 0 0 := by
  have h1 := mayD_len h
  have h2 := mayD_at h (i := 0) (by omega)
  have h3 : mayD [D.getD 0 0] = true := (mayD_iff _).2 ⟨by simp, by simpa using h2, by simp only [prodFrom, List.foldl, Int.one_mul]; omega⟩
  refine ⟨h3, ?_⟩
  unfold szD
  rw [if_pos h3]
  simp [prodFrom]
theorem pinit_ok : CtrOk Try.prog 50 (wpP [.sl (.int .i64), .int .u64, .int .u64] 3 58 21 ipE ipR) := by
  obtain ⟨G, hG⟩ : ∃ G : List (FuncId × Ctr), G = [(66, resU [.sl (.int .i64), .int .i64] .i8 3 58 zeE zeR), (26, intC [.int .u64, .int .u64, .int .u64, .int .i64] .i64 blwF)] := ⟨_, rfl⟩
  refine fn_ok (ck := true) Try.func50 rfl tt_ok (G := G) (by rw [hG]; exact ⟨⟨tzero_ok, by unfold FnOk; kernel_rfl⟩, ⟨blw_ok, by unfold FnOk; kernel_rfl⟩, trivial⟩) mixed (by kernel_rfl) ?_
  intro xa xs h hx hp
  obtain ⟨a0, as0, x0, xs0, rfl, rfl, h0, H1⟩ := svArgs_cons h
  obtain ⟨a1, as1, x1, xs1, rfl, rfl, h1, H2⟩ := svArgs_cons H1
  obtain ⟨a2, as2, x2, xs2, rfl, rfl, h2, H3⟩ := svArgs_cons H2
  obtain ⟨rfl, rfl⟩ := svArgs_nil H3
  obtain ⟨D, rfl, rfl⟩ := argSV_ints h0
  obtain ⟨s, rfl, rfl⟩ := argSV_int h1
  obtain ⟨y, rfl, rfl⟩ := argSV_int h2
  have sD : Fits .i64 D ∧ ci D.length ≤ 9223372036854775807 := svf_ints (hx (.iimm .i64 D) (by simp))
  have ss : (Lit.int .u64 s).wf = true := (hx (.v (.int .u64 s)) (by simp))
  have sy : (Lit.int .u64 y).wf = true := (hx (.v (.int .u64 y)) (by simp))
  have SD := Lib.hid sD
  clear sD
  have SS := Lib.hid ss
  clear ss
  have SY := Lib.hid sy
  clear sy
  clear hx hp h h0 H1 h1 H2 h2 H3
  generalize hA : std = A
  subst hG
  generalize h_c : ci = c
  generalize h_fz : zeR = fz
  generalize h_fe : zeE = fe
  generalize h_fb : blwF = fb
  generalize h_fE : ipE = fE
  generalize h_fR : ipR = fR
  obtain ⟨S, hS⟩ : ∃ S : Nat → List Int, ∀ x, S x = mixL (fun _ => 0) (w0I s y) (szD D).toNat x := ⟨_, fun _ => rfl⟩
  have HSS := Lib.hid hS
  clear hS
  cbv
  (repeat' (first | apply And.intro | apply BrB.mk | apply BrP.mk | intro _))
  all_goals try (refine loop_at Nat 24 (fun x => [(10, .any), (24, .v (.int .i64 (c x)))]) (fun x o => o.set 2 (.irow 58 .i8 (S x))) (fun x => x ≤ (szD D).toNat) (fun x => (szD D).toNat - x) 0 (Nat.zero_le _) ?_ ?_
                 focus
                   show AS.le _ _
                   cbv
                   (repeat' (first | apply And.intro | apply BrB.mk | apply BrP.mk | intro _))
                   (all_goals (subst hA; subst h_c; subst h_fz; subst h_fe; subst h_fb; subst h_fE; subst h_fR); all_goals (have f_sd := SD.out; have f_ss := SS.out; have f_sy := SY.out); all_goals (try simp only [std, stdBin, stdCmp, stdUna, stdIn, ci, beq_iff_eq, bne_iff_ne, beq_eq_false_iff_ne, bne_eq_false_iff_eq, decide_eq_true_eq, decide_eq_false_iff_not, Bool.not_true, Bool.not_false, Bool.not_eq_true', Bool.not_eq_false', Bool.not_not, tn0, tn1, tn2, tn3, zeE, zeR, zeO_7] at *); all_goals (try omega))
                   all_goals (have hz : mayD D = true := (by cases h : mayD D <;> simp_all))
                   all_goals first | exact True.intro | rfl | (rw [HSS.out, mixL_nil, if_pos hz]; done) | (simp only [hz, if_true]; rw [HSS.out, mixL_nil]; done)
                   done)
  all_goals try (intro x hx; cbv; refine BrB.mk (fun gx => ?_) (fun gx => ?_))
  all_goals (repeat' (first | apply And.intro | apply BrB.mk | apply BrP.mk | intro _))
  all_goals try (refine ⟨x + 1, ?_, ?_, ?_⟩)
  all_goals try (show AS.le _ _; cbv; (repeat' (first | apply And.intro | apply BrB.mk | apply BrP.mk | intro _)))
  (all_goals (subst hA; subst h_c; subst h_fz; subst h_fe; subst h_fb; subst h_fE; subst h_fR); all_goals (have f_sd := SD.out; have f_ss := SS.out; have f_sy := SY.out); all_goals (try simp only [std, stdBin, stdCmp, stdUna, stdIn, ci, beq_iff_eq, bne_iff_ne, beq_eq_false_iff_ne, bne_eq_false_iff_eq, decide_eq_true_eq, decide_eq_false_iff_not, Bool.not_true, Bool.not_false, Bool.not_eq_true', Bool.not_eq_false', Bool.not_not, tn0, tn1, tn2, tn3, zeE, zeR, zeO_7, blwF, ipE, ipR, Int.toNat_natCast] at *); all_goals (try omega))
  all_goals (try first | exact True.intro | exact congrArg (Value.int .i64) (Int.natCast_succ _).symm | omega)
  all_goals (have zi := szD_in D; have sl : ∀ i, (S i).length = (szD D).toNat := (fun i => by rw [HSS.out, mixL_len]))
  all_goals (by_cases hm : mayD D = true)
  all_goals try (have ml := mayD_len hm
                 obtain ⟨hm1, hm2⟩ := head_may hm
                 have hd := head_of2 hm
                 have b1 : ∀ x : Nat, belowB (bv s) (bv y) (bv (IntKind.u64.wrap (x : Int))) 63 - 31 = w0I s y x := fun _ => rfl
                 simp only [hm, hd, hm1, hm2, sl, b1, if_true, ipV, ne_eq, List.length_replicate, not_true_eq_false] at *)
  all_goals try (have hm2 : mayD D = false := Bool.eq_false_iff.2 hm
                 simp only [hm2, if_false, Bool.false_eq_true, noW] at *)
  all_goals first
         | omega
         | (have w3 := w0_in s y x; first | omega | (show _ = S (x + 1); rw [HSS.out, HSS.out]; refine mixL_store (by omega) ?_; rw [w8 (by omega) (by omega)]; done))
         | (rw [HSS.out, show x = (szD D).toNat by omega, mixL_all]; done)
         | contradiction
         | (exfalso; omega)
         | rfl
         | trace_state
end Go.Proofs.Ytnjipnklbdlgaaa
/- Layer 17: weights at first: of a net. -/
namespace Go.Proofs.Ytnjipnklbdlgaaa
open Go.RowKit
set_option maxRecDepth 1000000
set_option linter.unusedSimpArgs false
set_option linter.unusedVariables false
set_option maxHeartbeats 16000000
set_option cbv.maxSteps 10000000
def pdOk (c h w : Int) (x : Dat) (y : Int) : Bool := decide ((shpR c h w x).2 = 0 ∧ 1 ≤ y ∧ y ≤ x.ls.length) && mayD (dmI x c h w (y - 1).toNat)
def pdV (c h w : Int) (x : Dat) (y : Int) : List Int := if pdOk c h w x y = true then dmI x c h w (y - 1).toNat else []
def pdN (c h w : Int) (x : Dat) (y : Int) : Int := if pdOk c h w x y = true then layI x (y - 1).toNat 1 else 0
def pdVF (xa : List AV) : List Int := match xa with
  | [.st [.st [.z c, .z h, .z w], .d x], .z y] => pdV c h w x y
  | _ => []
def pdNF (xa : List AV) : Int := match xa with
  | [.st [.st [.z c, .z h, .z w], .d x], .z y] => pdN c h w x y
  | _ => 0
def rowI0 (ts : List Ty) (tI : TypeId) (r : List AV → List Int) (n : List AV → Int) : Ctr :=
  ⟨ts, fun _ => none, fun xa => .ret (.tup [.hdl 0, .v (.int .i64 (n xa))]) [(0, .irow tI .i64 (r xa))], false⟩
theorem pD_ok : CtrOk Try.prog 27 (rowI0 [mdlTy, .int .i64] 3 pdVF pdNF) := by
  obtain ⟨G, hG⟩ : ∃ G : List (FuncId × Ctr), G = [(51, rowP [layTy, .sl (.int .i64)] 3 .i64 dmP dmVF), (33, boolC [.sl (.int .i64)] shMayF)] := ⟨_, rfl⟩
  refine fn_inl2 (ck := true) rfl [(12, shpC shpE shpN shpD)] ⟨⟨by unfold FnOk; kernel_rfl, shapes_ok⟩, trivial⟩ [] trivial Try.func27 rfl tt_ok (G := G) (by rw [hG]; exact ⟨⟨pdims_ok, by unfold FnOk; kernel_rfl⟩, ⟨shMay_ok, by unfold FnOk; kernel_rfl⟩, trivial⟩) mixed (by kernel_rfl) ?_
  intro xa xs h hx hp
  obtain ⟨a0, as0, x0, xs0, rfl, rfl, h0, H1⟩ := svArgs_cons h
  obtain ⟨a1, as1, x1, xs1, rfl, rfl, h1, H2⟩ := svArgs_cons H1
  obtain ⟨rfl, rfl⟩ := svArgs_nil H2
  obtain ⟨mc, mh, mw, mx, rfl, rfl⟩ := argSV_mdl h0
  obtain ⟨y, rfl, rfl⟩ := argSV_int h1
  have sm : (-9223372036854775808 ≤ mc ∧ mc ≤ 9223372036854775807) ∧ (-9223372036854775808 ≤ mh ∧ mh ≤ 9223372036854775807) ∧ (-9223372036854775808 ≤ mw ∧ mw ≤ 9223372036854775807) ∧ ((ci mx.ls.length ≤ 9223372036854775807) ∧ Wt (.sl layTy) mx) := svf_mdl (hx (.agg [.v (.int .i64 mc), .v (.int .i64 mh), .v (.int .i64 mw), .imm layTy mx]) (List.mem_of_getElem? (i := 0) rfl))
  have sy := of_i64 (hx (.v (.int .i64 y)) (by simp))
  have SM := Lib.hid sm
  clear sm
  have SY := Lib.hid sy
  clear sy
  clear hx hp h h0 H1 h1 H2
  generalize hA : std = A
  subst hG
  generalize h_c : ci = c
  generalize h_fe : shpE = fe
  generalize h_fN : shpN = fN
  generalize h_fD : shpD = fD
  generalize h_fp : dmP = fp
  generalize h_fv : dmVF = fv
  generalize h_fm : shMayF = fm
  generalize h_fV : pdVF = fV
  generalize h_fW : pdNF = fW
  cbv
  (repeat' (first | apply And.intro | apply BrB.mk | apply BrP.mk | intro _))
  (all_goals (subst hA; subst h_c; subst h_fe; subst h_fN; subst h_fD; subst h_fp; subst h_fv; subst h_fm; subst h_fV; subst h_fW); all_goals (have f_sm := SM.out; have f_sy := SY.out); all_goals (try simp only [std, stdBin, stdCmp, stdUna, stdIn, ci, beq_iff_eq, bne_iff_ne, beq_eq_false_iff_ne, bne_eq_false_iff_eq, decide_eq_true_eq, decide_eq_false_iff_not, Bool.not_true, Bool.not_false, Bool.not_eq_true', Bool.not_eq_false', Bool.not_not, tn0, tn1, tn2, tn3, shpE, shpN, shpD, rowsD_at', rowsD_len, shp_len, dmP, dmVF, shMayF, pdVF, pdNF, Int.toNat_natCast] at *); all_goals (try omega))
  all_goals first
    | exact True.intro
    | (have hz : ¬ (shpR mc mh mw mx).2 = 0 := (by assumption)
       have hp : pdOk mc mh mw mx y = false := (by unfold pdOk; rw [decide_eq_false (fun q => hz q.1)]; rfl)
       simp [pdV, pdN, hp]; done)
    | (have hz : (shpR mc mh mw mx).2 = 0 := (by assumption)
       obtain ⟨hm, hS⟩ := shpR_ok hz
       obtain ⟨m1, m2, m3, m4, m5⟩ := mdl_of hm
       first
         | omega
         | (have hp : pdOk mc mh mw mx y = false := (by unfold pdOk; rw [decide_eq_false (fun q => by omega)]; rfl)
            simp [pdV, pdN, hp]; done)
         | (have hy : 1 ≤ y ∧ y ≤ mx.ls.length := ⟨by omega, by omega⟩
            have e3 : (shp mc mh mw mx mx.ls.length).getD (y - 1).toNat [] = shT mc mh mw mx (y - 1).toNat := shp_at (by omega)
            simp only [e3] at *
            have y1 := mayD_len (shT_may hm hS (y - 1).toNat (by omega))
            have hdm : dmI mx mc mh mw (y - 1).toNat = dmV (layI mx (y - 1).toNat 0) (layI mx (y - 1).toNat 1) (layI mx (y - 1).toNat 2) ((shT mc mh mw mx (y - 1).toNat).getD 0 0) := rfl
            unfold layI at hdm
            simp only [← hdm] at *
            first
              | omega
              | exact y1.1
              | (have hp : pdOk mc mh mw mx y = true := (by unfold pdOk; rw [Bool.and_eq_true, decide_eq_true_eq]; exact ⟨⟨hz, hy⟩, by assumption⟩)
                 simp [pdV, pdN, hp, layI]; done)
              | (have hp : pdOk mc mh mw mx y = false := (by unfold pdOk; rw [Bool.and_eq_false_iff]; exact .inr (by first | assumption | exact Bool.eq_false_iff.2 (by assumption)))
                 simp [pdV, pdN, hp]; done)
              | trace_state)
         | trace_state)
    | trace_state
def prmD (p : Wp) : Dat := .agg [.agg [std.ofInts p.d, .int p.e, std.ofInts p.l], std.ofInts p.m, .agg [std.ofInts p.f, .int p.g, std.ofInts p.h]]
def wgB (x : Dat) (i : Nat) : Bool := decide (layI x i 0 = 1 ∨ layI x i 0 = 2)
def wDat (c h w : Int) (x : Dat) (s : Int) (i : Nat) : Dat := if wgB x i = true then prmD (ipV (dmI x c h w i) s (IntKind.u64.wrap ((i : Int) + 1))) else zeroD prmTy
def okW (c h w : Int) (x : Dat) (i : Nat) : Bool := !wgB x i || mayD (dmI x c h w i)
def wMix (c h w : Int) (x : Dat) (s : Int) (k : Nat) : Dat := .list ((List.range x.ls.length).map fun i => if i < k then wDat c h w x s i else zeroD prmTy)
def iniR (c h w : Int) (x : Dat) : Int := if (shpR c h w x).2 = 0 then if allTo (okW c h w x) x.ls.length = true then 0 else 1 else (shpR c h w x).2
def iniE (xa : List AV) : Int := match xa with
  | [.st [.st [.z c, .z h, .z w], .d x], .z s] => iniR c h w x
  | _ => 0
def iniD (xa : List AV) : Dat := match xa with
  | [.st [.st [.z c, .z h, .z w], .d x], .z s] => wMix c h w x s x.ls.length
  | _ => .list []
def iniC (e : List AV → Int) (d : List AV → Dat) : FCtr := ⟨[mdlTy, .int .u64], fun _ => none, fun xa => .ite (e xa = 0) (.ret (.tup [.imm prmTy (d xa), .v (.int .i64 0)]) []) (.ret (.tup [.v (.slice none 0 0), .v (.int .i64 (e xa))]) []), true⟩
theorem wMix_len (c h w : Int) (x : Dat) (s : Int) (k : Nat) : (wMix c h w x s k).ls.length = x.ls.length := by simp [wMix, Dat.ls]
theorem wMix_zero (c h w : Int) (x : Dat) (s : Int) : std.drep (zeroD prmTy) x.ls.length = wMix c h w x s 0 := by
  show Dat.list (List.replicate (x.ls.length : Int).toNat _) = _
  unfold wMix
  rw [Int.toNat_natCast]
  congr 1
  apply List.ext_getElem
  · simp
  · intro i h1 h2
    simp
theorem wMix_set {c h w : Int} {x : Dat} {s : Int} {k : Nat} {u : Dat} (hk : k < x.ls.length) (hu : u = wDat c h w x s k) : std.dset (wMix c h w x s k) k u = wMix c h w x s (k + 1) := by
  show Dat.list ((wMix c h w x s k).ls.set (k : Int).toNat u) = _
  unfold wMix
  congr 1
  simp only [Dat.ls, Int.toNat_natCast]
  apply List.ext_getElem
  · simp
  · intro i h1 h2
    rw [List.getElem_set]
    by_cases e : k = i
    · subst e; simp [hu]
    · rw [if_neg e]
      simp only [List.getElem_map, List.getElem_range]
      by_cases h3 : i < k
      · rw [if_pos h3, if_pos (by omega)]
      · rw [if_neg h3, if_neg (by omega)]
theorem wMix_skip {c h w : Int} {x : Dat} {s : Int} {k : Nat} (hk : wgB x k = false) : wMix c h w x s k = wMix c h w x s (k + 1) := by
  unfold wMix
  congr 1
  apply List.map_congr_left
  intro i _
  by_cases e : i = k
  · subst e
    rw [if_neg (by omega), if_pos (by omega)]
    unfold wDat
    rw [if_neg (by rw [hk]; simp)]
  · by_cases h3 : i < k
    · rw [if_pos h3, if_pos (by omega)]
    · rw [if_neg h3, if_neg (by omega)]
theorem pInit_ok : FOk Try.prog 23 (iniC iniE iniD) := by
  obtain ⟨G, hG⟩ : ∃ G : List (FuncId × Ctr), G = [(51, rowP [layTy, .sl (.int .i64)] 3 .i64 dmP dmVF), (50, wpP [.sl (.int .i64), .int .u64, .int .u64] 3 58 21 ipE ipR)] := ⟨_, rfl⟩
  refine fn_inlF (ck := true) [(12, shpC shpE shpN shpD)] ⟨⟨by unfold FnOk; kernel_rfl, shapes_ok⟩, trivial⟩ [(49, Try.f49)] ⟨⟨Try.func49, by unfold FnOk; kernel_rfl, by kernel_rfl⟩, trivial⟩ Try.func23 rfl tt_ok (G := G) (by rw [hG]; exact ⟨⟨pdims_ok, by unfold FnOk; kernel_rfl⟩, ⟨pinit_ok, by unfold FnOk; kernel_rfl⟩, trivial⟩) mixed (by kernel_rfl) ?_
  intro xa xs h hx hp
  obtain ⟨a0, as0, x0, xs0, rfl, rfl, h0, H1⟩ := svArgs_cons h
  obtain ⟨a1, as1, x1, xs1, rfl, rfl, h1, H2⟩ := svArgs_cons H1
  obtain ⟨rfl, rfl⟩ := svArgs_nil H2
  obtain ⟨mc, mh, mw, mx, rfl, rfl⟩ := argSV_mdl h0
  obtain ⟨s, rfl, rfl⟩ := argSV_int h1
  have sm : (-9223372036854775808 ≤ mc ∧ mc ≤ 9223372036854775807) ∧ (-9223372036854775808 ≤ mh ∧ mh ≤ 9223372036854775807) ∧ (-9223372036854775808 ≤ mw ∧ mw ≤ 9223372036854775807) ∧ ((ci mx.ls.length ≤ 9223372036854775807) ∧ Wt (.sl layTy) mx) := svf_mdl (hx (.agg [.v (.int .i64 mc), .v (.int .i64 mh), .v (.int .i64 mw), .imm layTy mx]) (List.mem_of_getElem? (i := 0) rfl))
  have ss : (Lit.int .u64 s).wf = true := (hx (.v (.int .u64 s)) (by simp))
  have SM := Lib.hid sm
  clear sm
  have SS := Lib.hid ss
  clear ss
  clear hx hp h h0 H1 h1 H2
  generalize hA : std = A
  subst hG
  generalize h_c : ci = c
  generalize h_fe : shpE = fe
  generalize h_fN : shpN = fN
  generalize h_fD : shpD = fD
  generalize h_fp : dmP = fp
  generalize h_fv : dmVF = fv
  generalize h_fi : ipE = fi
  generalize h_fR : ipR = fR
  generalize h_fE : iniE = fE
  generalize h_fW : iniD = fW
  obtain ⟨P, hP⟩ : ∃ P : Nat → Dat, ∀ k, P k = wMix mc mh mw mx s k := ⟨_, fun _ => rfl⟩
  have HP2 := Lib.hid hP
  clear hP
  cbv
  (repeat' (first | apply And.intro | apply BrB.mk | apply BrP.mk | intro _))
  (all_goals try (exfalso; (subst hA; subst h_c; subst h_fe; subst h_fN; subst h_fD; subst h_fp; subst h_fv; subst h_fi; subst h_fR; subst h_fE; subst h_fW); (try simp only [std, stdBin, stdCmp, stdUna, stdIn, ci, beq_iff_eq, bne_iff_ne, beq_eq_false_iff_ne, bne_eq_false_iff_eq, decide_eq_true_eq, decide_eq_false_iff_not, Bool.not_true, Bool.not_false, Bool.not_eq_true', Bool.not_eq_false', Bool.not_not, tn0, tn1, tn2, tn3] at *); first | omega | contradiction))
  all_goals try (refine loop_at Nat 28 (fun k => [(4, .v (.slice none 0 0)), (5, .v (.int .i64 0)), (8, .v (.int .i64 0)), (10, .any), (11, .any), (28, .v (.int .i64 (c k)))]) (fun k o => o.set 1 (.srow 57 prmTy (P k))) (fun k => k ≤ mx.ls.length ∧ allTo (okW mc mh mw mx) k = true) (fun k => mx.ls.length - k) 0 ⟨Nat.zero_le _, rfl⟩ ?_ ?_
                 focus
                   show AS.le _ _
                   cbv
                   (repeat' (first | apply And.intro | apply BrB.mk | apply BrP.mk | intro _))
                   (all_goals (subst hA; subst h_c; subst h_fe; subst h_fN; subst h_fD; subst h_fp; subst h_fv; subst h_fi; subst h_fR; subst h_fE; subst h_fW); all_goals (have f_sm := SM.out; have f_ss := SS.out); all_goals (try simp only [std, stdBin, stdCmp, stdUna, stdIn, ci, beq_iff_eq, bne_iff_ne, beq_eq_false_iff_ne, bne_eq_false_iff_eq, decide_eq_true_eq, decide_eq_false_iff_not, Bool.not_true, Bool.not_false, Bool.not_eq_true', Bool.not_eq_false', Bool.not_not, tn0, tn1, tn2, tn3, shpE] at *); all_goals (try omega))
                   all_goals first | exact True.intro | rfl | (rw [HP2.out]; exact wMix_zero _ _ _ _ _) | trace_state
                   done)
  all_goals try (rintro k ⟨hk, hE⟩; cbv; refine BrB.mk (fun gx => ?_) (fun gx => ?_))
  all_goals (repeat' (first | apply And.intro | apply BrB.mk | apply BrP.mk | intro _))
  all_goals try (refine ⟨k + 1, ?_, ?_, ?_⟩)
  all_goals try (show AS.le _ _; cbv; (repeat' (first | apply And.intro | apply BrB.mk | apply BrP.mk | intro _)))
  (all_goals (subst hA; subst h_c; subst h_fe; subst h_fN; subst h_fD; subst h_fp; subst h_fv; subst h_fi; subst h_fR; subst h_fE; subst h_fW); all_goals (have f_sm := SM.out; have f_ss := SS.out); all_goals (try simp only [std, stdBin, stdCmp, stdUna, stdIn, ci, beq_iff_eq, bne_iff_ne, beq_eq_false_iff_ne, bne_eq_false_iff_eq, decide_eq_true_eq, decide_eq_false_iff_not, Bool.not_true, Bool.not_false, Bool.not_eq_true', Bool.not_eq_false', Bool.not_not, tn0, tn1, tn2, tn3, shpE, shpN, shpD, rowsD_at', rowsD_len, shp_len, dmP, dmVF, ipE, ipR, iniE, iniD, HP2.out, wMix_len, Int.toNat_natCast] at *); all_goals (try omega))
  all_goals (try first | exact True.intro | exact congrArg (Value.int .i64) (Int.natCast_succ _).symm | omega)
  all_goals (try (have hi : iniR mc mh mw mx = (shpR mc mh mw mx).2 := (if_neg (by assumption : ¬ (shpR mc mh mw mx).2 = 0)); first | (rw [hi]; done) | omega))
  all_goals (have hz : (shpR mc mh mw mx).2 = 0 := (by assumption))
  all_goals (obtain ⟨hm, hS⟩ := shpR_ok hz)
  all_goals (obtain ⟨m1, m2, m3, m4, m5⟩ := mdl_of hm)
  all_goals (try omega)
  all_goals first
    | (have hkn : k < mx.ls.length := (by omega)
       have e3 : (shp mc mh mw mx mx.ls.length).getD k [] = shT mc mh mw mx k := shp_at (by omega)
       have y1 := mayD_len (shT_may hm hS k (by omega))
       have hdm : dmI mx mc mh mw k = dmV (layI mx k 0) (layI mx k 1) (layI mx k 2) ((shT mc mh mw mx k).getD 0 0) := rfl
       have hwg : wgB mx k = decide (layI mx k 0 = 1 ∨ layI mx k 0 = 2) := rfl
       unfold layI at hdm hwg
       simp only [e3, ← hdm] at *
       by_cases hw : wgB mx k = true
       focus
         by_cases hd : mayD (dmI mx mc mh mw k) = true
         focus
           have ho : okW mc mh mw mx k = true := (by unfold okW; rw [hd, Bool.or_true])
           have hwd : wDat mc mh mw mx s k = prmD (ipV (dmI mx mc mh mw k) s (IntKind.u64.wrap ((k : Int) + 1))) := if_pos hw
           simp only [hd, if_true] at *
           first
             | omega
             | exact y1.1
             | (refine ⟨by omega, ?_⟩; simp only [allTo, hE, ho, Bool.and_self])
             | (exact wMix_set hkn hwd.symm)
             | (exfalso; have hq := of_decide_eq_true (hwg.symm.trans hw); omega)
             | contradiction
             | (exfalso; simp at *; done)
             | rfl
             | trace "P"
         focus
           have hd2 : mayD (dmI mx mc mh mw k) = false := Bool.eq_false_iff.2 hd
           have ho : okW mc mh mw mx k = false := (by unfold okW; rw [hd2, hw]; rfl)
           have hi : iniR mc mh mw mx = 1 := (by unfold iniR; rw [if_pos hz, if_neg (by rw [allTo_false hkn ho]; simp)])
           simp only [hd2, if_false, Bool.false_eq_true] at *
           first
             | omega
             | exact y1.1
             | (rw [hi]; done)
             | (exfalso; have hq := of_decide_eq_true (hwg.symm.trans hw); omega)
             | contradiction
             | trace "Q"
       focus
         have hw2 : wgB mx k = false := Bool.eq_false_iff.2 hw
         have hq := of_decide_eq_false (hwg.symm.trans hw2)
         have ho : okW mc mh mw mx k = true := (by unfold okW; rw [hw2]; rfl)
         first
           | omega
           | (refine ⟨by omega, ?_⟩; simp only [allTo, hE, ho, Bool.and_self])
           | exact wMix_skip hw2
           | (exfalso; omega)
           | trace "R")
    | (have e : k = mx.ls.length := (by omega)
       subst e
       have hi : iniR mc mh mw mx = 0 := (by unfold iniR; rw [if_pos hz, if_pos hE])
       first | rfl | omega | trace "S")
    | trace_state
end Go.Proofs.Ytnjipnklbdlgaaa
/- Layer 17: weights that every program must know; as many biases as the first length. -/
namespace Go.Proofs.Ytnjipnklbdlgaaa
open Go.RowKit
set_option maxRecDepth 1000000
set_option linter.unusedSimpArgs false
set_option linter.unusedVariables false
set_option maxHeartbeats 16000000
set_option cbv.maxSteps 10000000
theorem f17_e : iniR 1 1 2 flatX = 0 := by kernel_rfl
theorem f17_n : (wMix 1 1 2 flatX 7 flatX.ls.length).ls.length = 2 := by kernel_rfl
theorem f17_a : ((((wMix 1 1 2 flatX 7 flatX.ls.length).at 1).fld 0).fld 2).ints.length = 6 := by kernel_rfl
theorem f17_b : (((wMix 1 1 2 flatX 7 flatX.ls.length).at 1).fld 1).ints.length = 6 := by kernel_rfl
theorem f17_c : ((((wMix 1 1 2 flatX 7 flatX.ls.length).at 1).fld 2).fld 2).ints.length = 3 := by kernel_rfl
theorem f17_d : pdV 1 1 2 flatX 2 = [3, 2] := by kernel_rfl
theorem f17_f : pdN 1 1 2 flatX 2 = 3 := by kernel_rfl
theorem awake17_ok : CtrOk Try.prog 22 (yes6 [] (fun _ => True)) := by
  obtain ⟨G, hG⟩ : ∃ G : List (FuncId × Ctr), G = [(27, rowI0 [mdlTy, .int .i64] 3 pdVF pdNF), (14, boolC [.sl (.int .i64), .sl (.int .i64)] eqF)] := ⟨_, rfl⟩
  refine fn_inl3 (ck := true) rfl [(23, iniC iniE iniD)] ⟨⟨by unfold FnOk; kernel_rfl, pInit_ok⟩, trivial⟩ [(48, Try.f48)] ⟨⟨Try.func48, by unfold FnOk; kernel_rfl, by kernel_rfl⟩, trivial⟩ Try.func22 rfl tt_ok (G := G) (by rw [hG]; exact ⟨⟨pD_ok, by unfold FnOk; kernel_rfl⟩, ⟨rsame_ok, by unfold FnOk; kernel_rfl⟩, trivial⟩) mixed (by kernel_rfl) ?_
  intro xa xs h hx hp
  obtain ⟨rfl, rfl⟩ := svArgs_nil h
  refine Bx.out ?_
  clear hx hp h 
  generalize hA : std = A
  subst hG
  generalize h_c : ci = c
  generalize h_fE : iniE = fE
  generalize h_fW : iniD = fW
  generalize h_fV : pdVF = fV
  generalize h_fN : pdNF = fN
  generalize h_fs : eqF = fs
  cbv
  refine Bx.mk ?_
  (repeat' (first | apply And.intro | apply BrB.mk | apply BrP.mk | intro _))
  (all_goals (subst hA; subst h_c; subst h_fE; subst h_fW; subst h_fV; subst h_fN; subst h_fs); all_goals (skip); all_goals (try simp only [std, stdBin, stdCmp, stdUna, stdIn, ci, beq_iff_eq, bne_iff_ne, beq_eq_false_iff_ne, bne_eq_false_iff_eq, decide_eq_true_eq, decide_eq_false_iff_not, Bool.not_true, Bool.not_false, Bool.not_eq_true', Bool.not_eq_false', Bool.not_not, tn0, tn1, tn2, tn3, iniE, iniD, pdVF, pdNF, eqF, f17_e, f17_n, f17_a, f17_b, f17_c, f17_d, f17_f] at *); all_goals (try omega))
  all_goals first | exact True.intro | rfl | omega | contradiction | trace_state
end Go.Proofs.Ytnjipnklbdlgaaa
