/- Layer 16: a net that every program must know; a net is let for the classes that it gives, and no others. -/
import Derived.Test.YtnjipnklbdlgaaaChkC
namespace Go.Proofs.Ytnjipnklbdlgaaa
open Go.RowKit
set_option maxRecDepth 1000000
set_option linter.unusedSimpArgs false
set_option linter.unusedVariables false
set_option maxHeartbeats 8000000
set_option cbv.maxSteps 10000000
/-- A goal that nobody looks into. -/
structure Bx (p : Prop) : Prop where
  out : p
def yes6 (ts : List Ty) (p : List AV → Prop) : Ctr := ⟨ts, fun xa => some (p xa), fun _ => .ret (.v (.bool true)) [], false⟩
abbrev flatX : Dat := .list [.agg [.int 6, .int 0, .int 0, .int 0, .int 0, .int 0, .bool false], .agg [.int 1, .int 3, .int 0, .int 0, .int 0, .int 0, .bool false]]
/-- A loop of two rounds: what is known ahead of each, and behind. -/
theorem loop_nil3 {A : Sy} {R : List NilAt → Prop} {s : AS} {V : (α : Type) → (α → AS) → (α → Prop) → (α → Nat) → α → Prop} (ns : List NilAt) (keep : Nat) (upd : Nat → List (Nat × SV)) (objs : Nat → List SO → List SO) (hle : (s.nil A ns).le (mkS keep upd objs (s.nil A ns) 0))
    (h0 : V Nat (mkS keep upd objs (s.nil A ns)) (fun k => k ≤ 2) (fun k => 2 - k) 0) (h1 : V Nat (mkS keep upd objs (s.nil A ns)) (fun k => k ≤ 2) (fun k => 2 - k) 1) (h2 : V Nat (mkS keep upd objs (s.nil A ns)) (fun k => k ≤ 2) (fun k => 2 - k) 2) (hR : R ns) :
    ∃ (α : Type) (S : α → AS) (I : α → Prop) (μ : α → Nat) (x : α) (ns : List NilAt), I x ∧ (R ns ∧ ((s.nil A ns).le (S x) ∧ ∀ x, I x → V α S I μ x)) :=
  ⟨Nat, _, fun k => k ≤ 2, fun k => 2 - k, 0, ns, Nat.zero_le _, hR, hle, fun x hx => match x, hx with
    | 0, _ => h0
    | 1, _ => h1
    | 2, _ => h2
    | n + 3, h => absurd h (show ¬ n + 3 ≤ 2 by omega)⟩
/-- A contract of what is known to be true. -/
def litC (ts : List Ty) (p : List AV → Prop) : Ctr := ⟨ts, fun xa => some (p xa), fun _ => .ret (.lit true) [], false⟩
theorem lit_of {P : Program} {f : FuncId} {ts : List Ty} {g : List AV → Bool} (h : CtrOk P f (boolC ts g)) : CtrOk P f (litC ts fun xa => g xa = true) := by
  intro xa w gg vs hw hl hq
  have h1 : g xa = true := hq _ rfl
  refine (h xa w gg vs hw hl (fun p hp => by cases hp)).mono fun e w' ⟨v, he, hg⟩ => ⟨v, he, ⟨hg.below, ?_, hg.objs, hg.apart⟩⟩
  have h2 := hg.sv
  simp only [boolC, Out.pick, h1] at h2
  simp only [litC, Out.pick]
  simp only [SV.Is] at h2 ⊢
  exact h2.1
def mkL (tI : TypeId) (p : List AV → Prop) (v : List AV → List Int) : Ctr := ⟨[layTy, .sl (.sl (.int .i64))], fun xa => some (p xa), fun xa => .ret (.tup [.hdl 0, .lit true]) [(0, .irow tI .i64 (v xa))], false⟩
def mkLP (xa : List AV) : Prop := mkP xa ∧ mkNilF xa = false ∧ mkOkF xa = true
theorem makesL_ok : CtrOk Try.prog 32 (mkL 3 mkLP mkVF) := by
  intro xa w gg vs hw hl hq
  obtain ⟨h1, h2, h3⟩ : mkLP xa := hq _ rfl
  refine (makes_ok xa w gg vs hw hl (fun p hp => by cases hp; exact h1)).mono fun e w' ⟨v, he, hg⟩ => ⟨v, he, ?_⟩
  have e1 : ((mkC 3 mkP mkNilF mkVF mkOkF).res xa).pick = (.tup [.hdl 0, .v (.bool true)], [(0, .irow 3 .i64 (mkVF xa))]) := by
    simp [mkC, Out.pick, h2, h3]
  rw [e1] at hg
  refine ⟨hg.below, ?_, hg.objs, hg.apart⟩
  have h4 := hg.sv
  simp only [mkL, Out.pick]
  simp only [SV.Is, LsIs] at h4 ⊢
  obtain ⟨cs, e2, u, us, e3, h5, u', us', e4, h6, h7⟩ := h4
  exact ⟨cs, e2, u, us, e3, h5, u', us', e4, h6.1, h7⟩
theorem shMayL_ok : CtrOk Try.prog 33 (litC [.sl (.int .i64)] fun xa => shMayF xa = true) := by
  exact lit_of shMay_ok
theorem mmayL_ok : CtrOk Try.prog 30 (litC [mdlTy] fun xa => mdlF xa = true) := by
  exact lit_of mmay_ok
theorem fl_net : netR 1 1 2 flatX 3 2 = (0, 0) := by kernel_rfl
theorem fl_long : longR 1 1 2 flatX 2 = 3 := by kernel_rfl
theorem fl_mdl : mdlB 1 1 2 flatX = true := by kernel_rfl
theorem fl_shp : shpR 1 1 2 flatX = (0, 0) := by kernel_rfl
theorem fl_nil0 : mkNil 6 (lastR (rowsD (shp 1 1 2 flatX 0))) = false := by kernel_rfl
theorem fl_nil1 : mkNil 1 (lastR (rowsD (shp 1 1 2 flatX 1))) = false := by kernel_rfl
theorem fl_ok0 : mkOk 6 0 0 0 (lastR (rowsD (shp 1 1 2 flatX 0))) (rowAt (rowsD (shp 1 1 2 flatX 0)) 0) = true := by kernel_rfl
theorem fl_ok1 : mkOk 1 0 0 0 (lastR (rowsD (shp 1 1 2 flatX 1))) (rowAt (rowsD (shp 1 1 2 flatX 1)) 0) = true := by kernel_rfl
theorem fl_v0 : mkV 6 0 0 0 0 (lastR (rowsD (shp 1 1 2 flatX 0))) = [2] := by kernel_rfl
theorem fl_v1 : mkV 1 3 0 0 0 (lastR (rowsD (shp 1 1 2 flatX 1))) = [3] := by kernel_rfl
theorem fl_m2 : mayD [2] = true := by kernel_rfl
theorem fl_m3 : mayD [3] = true := by kernel_rfl
theorem fl_r2 : ((rowsD (shp 1 1 2 flatX 2)).at 2).ints = [3] := by kernel_rfl
theorem fl_may (i j : Nat) (hj : j ≤ 2) (hi : i < j + 1) : mayD (rowAt (rowsD (shp 1 1 2 flatX j)) i) = true := by
  rw [rowsD_at, shp_at (by omega)]
  obtain ⟨h1, h2⟩ := shpR_ok (c := 1) (h := 1) (w := 2) (x := flatX) (by rw [fl_shp])
  exact shT_may h1 (fun q hq => h2 q hq) i (show i ≤ 2 by omega)
theorem awake16_ok : CtrOk Try.prog 11 (yes6 [] (fun _ => True)) := by
  obtain ⟨G, hG⟩ : ∃ G : List (FuncId × Ctr), G = [(15, twoC [mdlTy, .int .i64, .int .i64] netN netF), (17, intC [mdlTy, .int .i64] .i64 longF), (30, litC [mdlTy] fun xa => mdlF xa = true), (31, rowP [.sl (.int .i64)] 3 .i64 (lenP 8) sameL), (32, mkL 3 mkLP mkVF), (33, litC [.sl (.int .i64)] fun xa => shMayF xa = true)] := ⟨_, rfl⟩
  refine fn_inl (ck := true) [(29, Try.f29), (12, Try.f12)] ⟨⟨Try.func29, by unfold FnOk; kernel_rfl, by kernel_rfl⟩, ⟨Try.func12, by unfold FnOk; kernel_rfl, by kernel_rfl⟩, trivial⟩ Try.func11 rfl tt_ok (G := G) (by rw [hG]; exact ⟨⟨net_ok, by unfold FnOk; kernel_rfl⟩, ⟨long_ok, by unfold FnOk; kernel_rfl⟩, ⟨mmayL_ok, by unfold FnOk; kernel_rfl⟩, ⟨cloneI_ok, by unfold FnOk; kernel_rfl⟩, ⟨makesL_ok, by unfold FnOk; kernel_rfl⟩, ⟨shMayL_ok, by unfold FnOk; kernel_rfl⟩, trivial⟩) mixed (by kernel_rfl) ?_
  intro xa xs h hx hp
  obtain ⟨rfl, rfl⟩ := svArgs_nil h
  refine Bx.out ?_
  clear hx hp h 
  generalize hA : std = A
  subst hG
  generalize h_c : ci = c
  generalize h_fm : mdlF = fm
  generalize h_fp : mkLP = fp
  generalize h_fv : mkVF = fv
  generalize h_fl : lenP 8 = fl
  generalize h_fs : sameL = fs
  generalize h_fd : shMayF = fd
  generalize h_gN : netN = gN
  generalize h_gE : netF = gE
  generalize h_gL : longF = gL
  obtain ⟨S, hS⟩ : ∃ S : Nat → Dat, ∀ k, S k = rowsD (shp 1 1 2 flatX k) := ⟨_, fun _ => rfl⟩
  have HS := Lib.hid hS
  clear hS
  cbv
  refine Bx.mk ?_
  (repeat' (first | apply And.intro | apply BrB.mk | apply BrP.mk | intro _))
  all_goals try (refine loop_nil3 (hR := ?hR) [.row 5 (.sl (.int .i64))] 20 (fun j => [(2, .v (.slice none 0 0)), (3, .v (.int .i64 0)), (4, .v (.int .i64 0)), (5, .hdl 6), (6, .any), (7, .any), (8, .any), (9, .any), (16, .any), (20, match j with | 0 => .v (.int .i64 0) | 1 => .v (.int .i64 1) | _ => .v (.int .i64 2))]) (fun k o => o.set 6 (.srow 32 (.sl (.int .i64)) (S k))) ?hle ?h0 ?h1 ?h2)
  case hR => exact True.intro
  case hle =>
    cbv
    (repeat' (first | apply And.intro | apply BrB.mk | apply BrP.mk | intro _))
    (all_goals (subst hA; subst h_c; subst h_fm; subst h_fp; subst h_fv; subst h_fl; subst h_fs; subst h_fd; subst h_gN; subst h_gE; subst h_gL); all_goals (skip); all_goals (try simp only [std, stdBin, stdCmp, stdUna, stdIn, ci, beq_iff_eq, bne_iff_ne, beq_eq_false_iff_ne, bne_eq_false_iff_eq, decide_eq_true_eq, decide_eq_false_iff_not, Bool.not_true, Bool.not_false, Bool.not_eq_true', Bool.not_eq_false', Bool.not_not, tn0, tn1, tn2, tn3, sameL] at *); all_goals (try omega))
    all_goals first | exact True.intro | rfl | (rw [HS.out]; rfl) | trace_state
  case h0 =>
      cbv
      (repeat' (first | apply And.intro | apply BrB.mk | apply BrP.mk | intro _))
      all_goals try (refine ⟨1, ?_, ?_, ?_⟩)
      all_goals try (show AS.le _ _; cbv; (repeat' (first | apply And.intro | apply BrB.mk | apply BrP.mk | intro _)))
      (all_goals (subst hA; subst h_c; subst h_fm; subst h_fp; subst h_fv; subst h_fl; subst h_fs; subst h_fd; subst h_gN; subst h_gE; subst h_gL); all_goals (skip); all_goals (try simp only [std, stdBin, stdCmp, stdUna, stdIn, ci, beq_iff_eq, bne_iff_ne, beq_eq_false_iff_ne, bne_eq_false_iff_eq, decide_eq_true_eq, decide_eq_false_iff_not, Bool.not_true, Bool.not_false, Bool.not_eq_true', Bool.not_eq_false', Bool.not_not, tn0, tn1, tn2, tn3, mdlF, mkNilF, mkVF, mkOkF, mkLP, mkP, shMayF, netN, netF, longF, HS.out, rowsD_len, shp_len, fl_nil0, fl_nil1, fl_ok0, fl_ok1, fl_v0, fl_v1, fl_m2, fl_m3, fl_r2, fl_net, fl_long, fl_mdl, Bool.false_eq_true, Bool.true_eq_false, not_true_eq_false, ne_eq, not_false_eq_true] at *); all_goals (try omega))
      all_goals first
        | exact True.intro
        | rfl
        | exact rowsD_app (shp 1 1 2 flatX 0) _
        | (refine ⟨⟨⟨by omega, by omega⟩, fun i hi => fl_may i 0 (by omega) hi, by omega⟩, by trivial⟩)
        | (refine ⟨⟨by omega, by omega⟩, fun i hi => fl_may i 0 (by omega) hi, by omega⟩)
        | (simp only [Dat.ls, List.length_cons, List.length_nil]; omega)
        | (simp only [Dat.ls, List.length_cons, List.length_nil]; decide)
        | (exfalso; have h : ¬ (0 : Int) < Int.ofNat 2 := (by assumption); exact h (by decide))
        | (exfalso; have h : ¬ (1 : Int) < Int.ofNat 2 := (by assumption); exact h (by decide))
        | trace_state
  case h1 =>
      cbv
      (repeat' (first | apply And.intro | apply BrB.mk | apply BrP.mk | intro _))
      all_goals try (refine ⟨2, ?_, ?_, ?_⟩)
      all_goals try (show AS.le _ _; cbv; (repeat' (first | apply And.intro | apply BrB.mk | apply BrP.mk | intro _)))
      (all_goals (subst hA; subst h_c; subst h_fm; subst h_fp; subst h_fv; subst h_fl; subst h_fs; subst h_fd; subst h_gN; subst h_gE; subst h_gL); all_goals (skip); all_goals (try simp only [std, stdBin, stdCmp, stdUna, stdIn, ci, beq_iff_eq, bne_iff_ne, beq_eq_false_iff_ne, bne_eq_false_iff_eq, decide_eq_true_eq, decide_eq_false_iff_not, Bool.not_true, Bool.not_false, Bool.not_eq_true', Bool.not_eq_false', Bool.not_not, tn0, tn1, tn2, tn3, mdlF, mkNilF, mkVF, mkOkF, mkLP, mkP, shMayF, netN, netF, longF, HS.out, rowsD_len, shp_len, fl_nil0, fl_nil1, fl_ok0, fl_ok1, fl_v0, fl_v1, fl_m2, fl_m3, fl_r2, fl_net, fl_long, fl_mdl, Bool.false_eq_true, Bool.true_eq_false, not_true_eq_false, ne_eq, not_false_eq_true] at *); all_goals (try omega))
      all_goals first
        | exact True.intro
        | rfl
        | exact rowsD_app (shp 1 1 2 flatX 1) _
        | (refine ⟨⟨⟨by omega, by omega⟩, fun i hi => fl_may i 1 (by omega) hi, by omega⟩, by trivial⟩)
        | (refine ⟨⟨by omega, by omega⟩, fun i hi => fl_may i 1 (by omega) hi, by omega⟩)
        | (simp only [Dat.ls, List.length_cons, List.length_nil]; omega)
        | (simp only [Dat.ls, List.length_cons, List.length_nil]; decide)
        | (exfalso; have h : ¬ (0 : Int) < Int.ofNat 2 := (by assumption); exact h (by decide))
        | (exfalso; have h : ¬ (1 : Int) < Int.ofNat 2 := (by assumption); exact h (by decide))
        | trace_state
  case h2 =>
      cbv
      (repeat' (first | apply And.intro | apply BrB.mk | apply BrP.mk | intro _))
      (all_goals (subst hA; subst h_c; subst h_fm; subst h_fp; subst h_fv; subst h_fl; subst h_fs; subst h_fd; subst h_gN; subst h_gE; subst h_gL); all_goals (skip); all_goals (try simp only [std, stdBin, stdCmp, stdUna, stdIn, ci, beq_iff_eq, bne_iff_ne, beq_eq_false_iff_ne, bne_eq_false_iff_eq, decide_eq_true_eq, decide_eq_false_iff_not, Bool.not_true, Bool.not_false, Bool.not_eq_true', Bool.not_eq_false', Bool.not_not, tn0, tn1, tn2, tn3, mdlF, netN, netF, longF, HS.out, rowsD_len, shp_len, fl_nil0, fl_nil1, fl_ok0, fl_ok1, fl_v0, fl_v1, fl_m2, fl_m3, fl_r2, fl_net, fl_long, fl_mdl, Bool.false_eq_true, Bool.true_eq_false, not_true_eq_false, ne_eq, not_false_eq_true] at *); all_goals (try omega))
      all_goals first | exact True.intro | rfl | omega | (exfalso; have h : (2 : Int) < Int.ofNat 2 := (by assumption); exact absurd h (by decide)) | (exfalso; have h : ¬ [(3 : Int)].getD 0 0 = 3 := (by assumption); exact h rfl) | (exfalso; have h : ¬ (([(3 : Int)].length : Nat) : Int) = 1 := (by assumption); exact h rfl) | trace_state
  (all_goals (subst hA; subst h_c; subst h_fm; subst h_fp; subst h_fv; subst h_fl; subst h_fs; subst h_fd; subst h_gN; subst h_gE; subst h_gL); all_goals (skip); all_goals (try simp only [std, stdBin, stdCmp, stdUna, stdIn, ci, beq_iff_eq, bne_iff_ne, beq_eq_false_iff_ne, bne_eq_false_iff_eq, decide_eq_true_eq, decide_eq_false_iff_not, Bool.not_true, Bool.not_false, Bool.not_eq_true', Bool.not_eq_false', Bool.not_not, tn0, tn1, tn2, tn3, mdlF, lenP] at *); all_goals (try omega))
  all_goals first | exact fl_mdl | (show (3 : Int) * 8 ≤ _; decide) | trace_state
end Go.Proofs.Ytnjipnklbdlgaaa
