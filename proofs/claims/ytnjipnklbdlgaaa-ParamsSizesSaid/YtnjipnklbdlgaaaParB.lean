/- Layer 17: weights at first: of a net. -/
import Derived.Test.YtnjipnklbdlgaaaParA
namespace Go.Proofs.Ytnjipnklbdlgaaa
open Go.RowKit
set_option maxRecDepth 1000000
set_option linter.unusedSimpArgs false
set_option linter.unusedVariables false
set_option maxHeartbeats 16000000
set_option cbv.maxSteps 10000000
def pdOk (c h w : Int) (x : Dat) (y : Int) : Bool := decide ((shpR c h w x).2 = 0 ∧ 1 ≤ y ∧ y ≤ x.ls.length) && mayD (dmI x c h w (y - 1).toNat)
def pdV (c h w : Int) (x : Dat) (y : Int) : List Int := if pdOk c h w x y = true then dmI x c h w (y - 1).toNat else []
def pdN (c h w : Int) (x : Dat) (y : Int) : Int := if pdOk c h w x y = true then layI x (y - 1).toNat 1 else 0
def pdVF (xa : List AV) : List Int := match xa with
  | [.st [.st [.z c, .z h, .z w], .d x], .z y] => pdV c h w x y
  | _ => []
def pdNF (xa : List AV) : Int := match xa with
  | [.st [.st [.z c, .z h, .z w], .d x], .z y] => pdN c h w x y
  | _ => 0
def rowI0 (ts : List Ty) (tI : TypeId) (r : List AV → List Int) (n : List AV → Int) : Ctr :=
  ⟨ts, fun _ => none, fun xa => .ret (.tup [.hdl 0, .v (.int .i64 (n xa))]) [(0, .irow tI .i64 (r xa))], false⟩
theorem pD_ok : CtrOk Try.prog 27 (rowI0 [mdlTy, .int .i64] 3 pdVF pdNF) := by
  obtain ⟨G, hG⟩ : ∃ G : List (FuncId × Ctr), G = [(51, rowP [layTy, .sl (.int .i64)] 3 .i64 dmP dmVF), (33, boolC [.sl (.int .i64)] shMayF)] := ⟨_, rfl⟩
  refine fn_inl2 (ck := true) rfl [(12, shpC shpE shpN shpD)] ⟨⟨by unfold FnOk; kernel_rfl, shapes_ok⟩, trivial⟩ [] trivial Try.func27 rfl tt_ok (G := G) (by rw [hG]; exact ⟨⟨pdims_ok, by unfold FnOk; kernel_rfl⟩, ⟨shMay_ok, by unfold FnOk; kernel_rfl⟩, trivial⟩) mixed (by kernel_rfl) ?_
  intro xa xs h hx hp
  obtain ⟨a0, as0, x0, xs0, rfl, rfl, h0, H1⟩ := svArgs_cons h
  obtain ⟨a1, as1, x1, xs1, rfl, rfl, h1, H2⟩ := svArgs_cons H1
  obtain ⟨rfl, rfl⟩ := svArgs_nil H2
  obtain ⟨mc, mh, mw, mx, rfl, rfl⟩ := argSV_mdl h0
  obtain ⟨y, rfl, rfl⟩ := argSV_int h1
  have sm : (-9223372036854775808 ≤ mc ∧ mc ≤ 9223372036854775807) ∧ (-9223372036854775808 ≤ mh ∧ mh ≤ 9223372036854775807) ∧ (-9223372036854775808 ≤ mw ∧ mw ≤ 9223372036854775807) ∧ ((ci mx.ls.length ≤ 9223372036854775807) ∧ Wt (.sl layTy) mx) := svf_mdl (hx (.agg [.v (.int .i64 mc), .v (.int .i64 mh), .v (.int .i64 mw), .imm layTy mx]) (List.mem_of_getElem? (i := 0) rfl))
  have sy := of_i64 (hx (.v (.int .i64 y)) (by simp))
  have SM := Lib.hid sm
  clear sm
  have SY := Lib.hid sy
  clear sy
  clear hx hp h h0 H1 h1 H2
  generalize hA : std = A
  subst hG
  generalize h_c : ci = c
  generalize h_fe : shpE = fe
  generalize h_fN : shpN = fN
  generalize h_fD : shpD = fD
  generalize h_fp : dmP = fp
  generalize h_fv : dmVF = fv
  generalize h_fm : shMayF = fm
  generalize h_fV : pdVF = fV
  generalize h_fW : pdNF = fW
  cbv
  (repeat' (first | apply And.intro | apply BrB.mk | apply BrP.mk | intro _))
  (all_goals (subst hA; subst h_c; subst h_fe; subst h_fN; subst h_fD; subst h_fp; subst h_fv; subst h_fm; subst h_fV; subst h_fW); all_goals (have f_sm := SM.out; have f_sy := SY.out); all_goals (try simp only [std, stdBin, stdCmp, stdUna, stdIn, ci, beq_iff_eq, bne_iff_ne, beq_eq_false_iff_ne, bne_eq_false_iff_eq, decide_eq_true_eq, decide_eq_false_iff_not, Bool.not_true, Bool.not_false, Bool.not_eq_true', Bool.not_eq_false', Bool.not_not, tn0, tn1, tn2, tn3, shpE, shpN, shpD, rowsD_at', rowsD_len, shp_len, dmP, dmVF, shMayF, pdVF, pdNF, Int.toNat_natCast] at *); all_goals (try omega))
  all_goals first
    | exact True.intro
    | (have hz : ¬ (shpR mc mh mw mx).2 = 0 := (by assumption)
       have hp : pdOk mc mh mw mx y = false := (by unfold pdOk; rw [decide_eq_false (fun q => hz q.1)]; rfl)
       simp [pdV, pdN, hp]; done)
    | (have hz : (shpR mc mh mw mx).2 = 0 := (by assumption)
       obtain ⟨hm, hS⟩ := shpR_ok hz
       obtain ⟨m1, m2, m3, m4, m5⟩ := mdl_of hm
       first
         | omega
         | (have hp : pdOk mc mh mw mx y = false := (by unfold pdOk; rw [decide_eq_false (fun q => by omega)]; rfl)
            simp [pdV, pdN, hp]; done)
         | (have hy : 1 ≤ y ∧ y ≤ mx.ls.length := ⟨by omega, by omega⟩
            have e3 : (shp mc mh mw mx mx.ls.length).getD (y - 1).toNat [] = shT mc mh mw mx (y - 1).toNat := shp_at (by omega)
            simp only [e3] at *
            have y1 := mayD_len (shT_may hm hS (y - 1).toNat (by omega))
            have hdm : dmI mx mc mh mw (y - 1).toNat = dmV (layI mx (y - 1).toNat 0) (layI mx (y - 1).toNat 1) (layI mx (y - 1).toNat 2) ((shT mc mh mw mx (y - 1).toNat).getD 0 0) := rfl
            unfold layI at hdm
            simp only [← hdm] at *
            first
              | omega
              | exact y1.1
              | (have hp : pdOk mc mh mw mx y = true := (by unfold pdOk; rw [Bool.and_eq_true, decide_eq_true_eq]; exact ⟨⟨hz, hy⟩, by assumption⟩)
                 simp [pdV, pdN, hp, layI]; done)
              | (have hp : pdOk mc mh mw mx y = false := (by unfold pdOk; rw [Bool.and_eq_false_iff]; exact .inr (by first | assumption | exact Bool.eq_false_iff.2 (by assumption)))
                 simp [pdV, pdN, hp]; done)
              | trace_state)
         | trace_state)
    | trace_state
def prmD (p : Wp) : Dat := .agg [.agg [std.ofInts p.d, .int p.e, std.ofInts p.l], std.ofInts p.m, .agg [std.ofInts p.f, .int p.g, std.ofInts p.h]]
def wgB (x : Dat) (i : Nat) : Bool := decide (layI x i 0 = 1 ∨ layI x i 0 = 2)
def wDat (c h w : Int) (x : Dat) (s : Int) (i : Nat) : Dat := if wgB x i = true then prmD (ipV (dmI x c h w i) s (IntKind.u64.wrap ((i : Int) + 1))) else zeroD prmTy
def okW (c h w : Int) (x : Dat) (i : Nat) : Bool := !wgB x i || mayD (dmI x c h w i)
def wMix (c h w : Int) (x : Dat) (s : Int) (k : Nat) : Dat := .list ((List.range x.ls.length).map fun i => if i < k then wDat c h w x s i else zeroD prmTy)
def iniR (c h w : Int) (x : Dat) : Int := if (shpR c h w x).2 = 0 then if allTo (okW c h w x) x.ls.length = true then 0 else 1 else (shpR c h w x).2
def iniE (xa : List AV) : Int := match xa with
  | [.st [.st [.z c, .z h, .z w], .d x], .z s] => iniR c h w x
  | _ => 0
def iniD (xa : List AV) : Dat := match xa with
  | [.st [.st [.z c, .z h, .z w], .d x], .z s] => wMix c h w x s x.ls.length
  | _ => .list []
def iniC (e : List AV → Int) (d : List AV → Dat) : FCtr := ⟨[mdlTy, .int .u64], fun _ => none, fun xa => .ite (e xa = 0) (.ret (.tup [.imm prmTy (d xa), .v (.int .i64 0)]) []) (.ret (.tup [.v (.slice none 0 0), .v (.int .i64 (e xa))]) []), true⟩
theorem wMix_len (c h w : Int) (x : Dat) (s : Int) (k : Nat) : (wMix c h w x s k).ls.length = x.ls.length := by simp [wMix, Dat.ls]
theorem wMix_zero (c h w : Int) (x : Dat) (s : Int) : std.drep (zeroD prmTy) x.ls.length = wMix c h w x s 0 := by
  show Dat.list (List.replicate (x.ls.length : Int).toNat _) = _
  unfold wMix
  rw [Int.toNat_natCast]
  congr 1
  apply List.ext_getElem
  · simp
  · intro i h1 h2
    simp
theorem wMix_set {c h w : Int} {x : Dat} {s : Int} {k : Nat} {u : Dat} (hk : k < x.ls.length) (hu : u = wDat c h w x s k) : std.dset (wMix c h w x s k) k u = wMix c h w x s (k + 1) := by
  show Dat.list ((wMix c h w x s k).ls.set (k : Int).toNat u) = _
  unfold wMix
  congr 1
  simp only [Dat.ls, Int.toNat_natCast]
  apply List.ext_getElem
  · simp
  · intro i h1 h2
    rw [List.getElem_set]
    by_cases e : k = i
    · subst e; simp [hu]
    · rw [if_neg e]
      simp only [List.getElem_map, List.getElem_range]
      by_cases h3 : i < k
      · rw [if_pos h3, if_pos (by omega)]
      · rw [if_neg h3, if_neg (by omega)]
theorem wMix_skip {c h w : Int} {x : Dat} {s : Int} {k : Nat} (hk : wgB x k = false) : wMix c h w x s k = wMix c h w x s (k + 1) := by
  unfold wMix
  congr 1
  apply List.map_congr_left
  intro i _
  by_cases e : i = k
  · subst e
    rw [if_neg (by omega), if_pos (by omega)]
    unfold wDat
    rw [if_neg (by rw [hk]; simp)]
  · by_cases h3 : i < k
    · rw [if_pos h3, if_pos (by omega)]
    · rw [if_neg h3, if_neg (by omega)]
theorem pInit_ok : FOk Try.prog 23 (iniC iniE iniD) := by
  obtain ⟨G, hG⟩ : ∃ G : List (FuncId × Ctr), G = [(51, rowP [layTy, .sl (.int .i64)] 3 .i64 dmP dmVF), (50, wpP [.sl (.int .i64), .int .u64, .int .u64] 3 58 21 ipE ipR)] := ⟨_, rfl⟩
  refine fn_inlF (ck := true) [(12, shpC shpE shpN shpD)] ⟨⟨by unfold FnOk; kernel_rfl, shapes_ok⟩, trivial⟩ [(49, Try.f49)] ⟨⟨Try.func49, by unfold FnOk; kernel_rfl, by kernel_rfl⟩, trivial⟩ Try.func23 rfl tt_ok (G := G) (by rw [hG]; exact ⟨⟨pdims_ok, by unfold FnOk; kernel_rfl⟩, ⟨pinit_ok, by unfold FnOk; kernel_rfl⟩, trivial⟩) mixed (by kernel_rfl) ?_
  intro xa xs h hx hp
  obtain ⟨a0, as0, x0, xs0, rfl, rfl, h0, H1⟩ := svArgs_cons h
  obtain ⟨a1, as1, x1, xs1, rfl, rfl, h1, H2⟩ := svArgs_cons H1
  obtain ⟨rfl, rfl⟩ := svArgs_nil H2
  obtain ⟨mc, mh, mw, mx, rfl, rfl⟩ := argSV_mdl h0
  obtain ⟨s, rfl, rfl⟩ := argSV_int h1
  have sm : (-9223372036854775808 ≤ mc ∧ mc ≤ 9223372036854775807) ∧ (-9223372036854775808 ≤ mh ∧ mh ≤ 9223372036854775807) ∧ (-9223372036854775808 ≤ mw ∧ mw ≤ 9223372036854775807) ∧ ((ci mx.ls.length ≤ 9223372036854775807) ∧ Wt (.sl layTy) mx) := svf_mdl (hx (.agg [.v (.int .i64 mc), .v (.int .i64 mh), .v (.int .i64 mw), .imm layTy mx]) (List.mem_of_getElem? (i := 0) rfl))
  have ss : (Lit.int .u64 s).wf = true := (hx (.v (.int .u64 s)) (by simp))
  have SM := Lib.hid sm
  clear sm
  have SS := Lib.hid ss
  clear ss
  clear hx hp h h0 H1 h1 H2
  generalize hA : std = A
  subst hG
  generalize h_c : ci = c
  generalize h_fe : shpE = fe
  generalize h_fN : shpN = fN
  generalize h_fD : shpD = fD
  generalize h_fp : dmP = fp
  generalize h_fv : dmVF = fv
  generalize h_fi : ipE = fi
  generalize h_fR : ipR = fR
  generalize h_fE : iniE = fE
  generalize h_fW : iniD = fW
  obtain ⟨P, hP⟩ : ∃ P : Nat → Dat, ∀ k, P k = wMix mc mh mw mx s k := ⟨_, fun _ => rfl⟩
  have HP2 := Lib.hid hP
  clear hP
  cbv
  (repeat' (first | apply And.intro | apply BrB.mk | apply BrP.mk | intro _))
  (all_goals try (exfalso; (subst hA; subst h_c; subst h_fe; subst h_fN; subst h_fD; subst h_fp; subst h_fv; subst h_fi; subst h_fR; subst h_fE; subst h_fW); (try simp only [std, stdBin, stdCmp, stdUna, stdIn, ci, beq_iff_eq, bne_iff_ne, beq_eq_false_iff_ne, bne_eq_false_iff_eq, decide_eq_true_eq, decide_eq_false_iff_not, Bool.not_true, Bool.not_false, Bool.not_eq_true', Bool.not_eq_false', Bool.not_not, tn0, tn1, tn2, tn3] at *); first | omega | contradiction))
  all_goals try (refine loop_at Nat 28 (fun k => [(4, .v (.slice none 0 0)), (5, .v (.int .i64 0)), (8, .v (.int .i64 0)), (10, .any), (11, .any), (28, .v (.int .i64 (c k)))]) (fun k o => o.set 1 (.srow 57 prmTy (P k))) (fun k => k ≤ mx.ls.length ∧ allTo (okW mc mh mw mx) k = true) (fun k => mx.ls.length - k) 0 ⟨Nat.zero_le _, rfl⟩ ?_ ?_
                 focus
                   show AS.le _ _
                   cbv
                   (repeat' (first | apply And.intro | apply BrB.mk | apply BrP.mk | intro _))
                   (all_goals (subst hA; subst h_c; subst h_fe; subst h_fN; subst h_fD; subst h_fp; subst h_fv; subst h_fi; subst h_fR; subst h_fE; subst h_fW); all_goals (have f_sm := SM.out; have f_ss := SS.out); all_goals (try simp only [std, stdBin, stdCmp, stdUna, stdIn, ci, beq_iff_eq, bne_iff_ne, beq_eq_false_iff_ne, bne_eq_false_iff_eq, decide_eq_true_eq, decide_eq_false_iff_not, Bool.not_true, Bool.not_false, Bool.not_eq_true', Bool.not_eq_false', Bool.not_not, tn0, tn1, tn2, tn3, shpE] at *); all_goals (try omega))
                   all_goals first | exact True.intro | rfl | (rw [HP2.out]; exact wMix_zero _ _ _ _ _) | trace_state
                   done)
  all_goals try (rintro k ⟨hk, hE⟩; cbv; refine BrB.mk (fun gx => ?_) (fun gx => ?_))
  all_goals (repeat' (first | apply And.intro | apply BrB.mk | apply BrP.mk | intro _))
  all_goals try (refine ⟨k + 1, ?_, ?_, ?_⟩)
  all_goals try (show AS.le _ _; cbv; (repeat' (first | apply And.intro | apply BrB.mk | apply BrP.mk | intro _)))
  (all_goals (subst hA; subst h_c; subst h_fe; subst h_fN; subst h_fD; subst h_fp; subst h_fv; subst h_fi; subst h_fR; subst h_fE; subst h_fW); all_goals (have f_sm := SM.out; have f_ss := SS.out); all_goals (try simp only [std, stdBin, stdCmp, stdUna, stdIn, ci, beq_iff_eq, bne_iff_ne, beq_eq_false_iff_ne, bne_eq_false_iff_eq, decide_eq_true_eq, decide_eq_false_iff_not, Bool.not_true, Bool.not_false, Bool.not_eq_true', Bool.not_eq_false', Bool.not_not, tn0, tn1, tn2, tn3, shpE, shpN, shpD, rowsD_at', rowsD_len, shp_len, dmP, dmVF, ipE, ipR, iniE, iniD, HP2.out, wMix_len, Int.toNat_natCast] at *); all_goals (try omega))
  all_goals (try first | exact True.intro | exact congrArg (Value.int .i64) (Int.natCast_succ _).symm | omega)
  all_goals (try (have hi : iniR mc mh mw mx = (shpR mc mh mw mx).2 := (if_neg (by assumption : ¬ (shpR mc mh mw mx).2 = 0)); first | (rw [hi]; done) | omega))
  all_goals (have hz : (shpR mc mh mw mx).2 = 0 := (by assumption))
  all_goals (obtain ⟨hm, hS⟩ := shpR_ok hz)
  all_goals (obtain ⟨m1, m2, m3, m4, m5⟩ := mdl_of hm)
  all_goals (try omega)
  all_goals first
    | (have hkn : k < mx.ls.length := (by omega)
       have e3 : (shp mc mh mw mx mx.ls.length).getD k [] = shT mc mh mw mx k := shp_at (by omega)
       have y1 := mayD_len (shT_may hm hS k (by omega))
       have hdm : dmI mx mc mh mw k = dmV (layI mx k 0) (layI mx k 1) (layI mx k 2) ((shT mc mh mw mx k).getD 0 0) := rfl
       have hwg : wgB mx k = decide (layI mx k 0 = 1 ∨ layI mx k 0 = 2) := rfl
       unfold layI at hdm hwg
       simp only [e3, ← hdm] at *
       by_cases hw : wgB mx k = true
       focus
         by_cases hd : mayD (dmI mx mc mh mw k) = true
         focus
           have ho : okW mc mh mw mx k = true := (by unfold okW; rw [hd, Bool.or_true])
           have hwd : wDat mc mh mw mx s k = prmD (ipV (dmI mx mc mh mw k) s (IntKind.u64.wrap ((k : Int) + 1))) := if_pos hw
           simp only [hd, if_true] at *
           first
             | omega
             | exact y1.1
             | (refine ⟨by omega, ?_⟩; simp only [allTo, hE, ho, Bool.and_self])
             | (exact wMix_set hkn hwd.symm)
             | (exfalso; have hq := of_decide_eq_true (hwg.symm.trans hw); omega)
             | contradiction
             | (exfalso; simp at *; done)
             | rfl
             | trace "P"
         focus
           have hd2 : mayD (dmI mx mc mh mw k) = false := Bool.eq_false_iff.2 hd
           have ho : okW mc mh mw mx k = false := (by unfold okW; rw [hd2, hw]; rfl)
           have hi : iniR mc mh mw mx = 1 := (by unfold iniR; rw [if_pos hz, if_neg (by rw [allTo_false hkn ho]; simp)])
           simp only [hd2, if_false, Bool.false_eq_true] at *
           first
             | omega
             | exact y1.1
             | (rw [hi]; done)
             | (exfalso; have hq := of_decide_eq_true (hwg.symm.trans hw); omega)
             | contradiction
             | trace "Q"
       focus
         have hw2 : wgB mx k = false := Bool.eq_false_iff.2 hw
         have hq := of_decide_eq_false (hwg.symm.trans hw2)
         have ho : okW mc mh mw mx k = true := (by unfold okW; rw [hw2]; rfl)
         first
           | omega
           | (refine ⟨by omega, ?_⟩; simp only [allTo, hE, ho, Bool.and_self])
           | exact wMix_skip hw2
           | (exfalso; omega)
           | trace "R")
    | (have e : k = mx.ls.length := (by omega)
       subst e
       have hi : iniR mc mh mw mx = 0 := (by unfold iniR; rw [if_pos hz, if_pos hE])
       first | rfl | omega | trace "S")
    | trace_state
end Go.Proofs.Ytnjipnklbdlgaaa
