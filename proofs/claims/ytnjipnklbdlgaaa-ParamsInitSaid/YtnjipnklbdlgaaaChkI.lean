/- Layer 16: the counterparts: what a layer gives, what each layer gives. -/
import Derived.Test.YtnjipnklbdlgaaaChkG
namespace Go.Proofs.Ytnjipnklbdlgaaa
open Go.RowKit
set_option maxRecDepth 1000000
set_option linter.unusedSimpArgs false
set_option linter.unusedVariables false
set_option maxHeartbeats 16000000
set_option cbv.maxSteps 10000000
theorem rout10_ok : CtrOk Try.prog 75 (intC [.int .i64, .int .i64, .int .i64, .int .i64] .i64 outF) := by
  obtain ⟨G, hG⟩ : ∃ G : List (FuncId × Ctr), G = [] := ⟨_, rfl⟩
  refine fn_ok (ck := true) Try.func75 rfl tt_ok (G := G) (by rw [hG]; exact trivial) mixed (by kernel_rfl) ?_
  intro xa xs h hx hp
  obtain ⟨a0, as0, x0, xs0, rfl, rfl, h0, H1⟩ := svArgs_cons h
  obtain ⟨a1, as1, x1, xs1, rfl, rfl, h1, H2⟩ := svArgs_cons H1
  obtain ⟨a2, as2, x2, xs2, rfl, rfl, h2, H3⟩ := svArgs_cons H2
  obtain ⟨a3, as3, x3, xs3, rfl, rfl, h3, H4⟩ := svArgs_cons H3
  obtain ⟨rfl, rfl⟩ := svArgs_nil H4
  obtain ⟨n, rfl, rfl⟩ := argSV_int h0
  obtain ⟨k, rfl, rfl⟩ := argSV_int h1
  obtain ⟨s, rfl, rfl⟩ := argSV_int h2
  obtain ⟨p, rfl, rfl⟩ := argSV_int h3
  have sn := of_i64 (hx (.v (.int .i64 n)) (by simp))
  have sk := of_i64 (hx (.v (.int .i64 k)) (by simp))
  have ss := of_i64 (hx (.v (.int .i64 s)) (by simp))
  have sp := of_i64 (hx (.v (.int .i64 p)) (by simp))
  have SN := Lib.hid sn
  clear sn
  have SK := Lib.hid sk
  clear sk
  have SS := Lib.hid ss
  clear ss
  have SP := Lib.hid sp
  clear sp
  clear hx hp h h0 H1 h1 H2 h2 H3 h3 H4
  generalize hA : std = A
  subst hG
  generalize h_c : ci = c
  generalize h_fR : outF = fR
  cbv
  (repeat' (first | apply And.intro | apply BrB.mk | apply BrP.mk | intro _))
  (all_goals (subst hA; subst h_c; subst h_fR); all_goals (have f_sn := SN.out; have f_sk := SK.out; have f_ss := SS.out; have f_sp := SP.out); all_goals (try simp only [std, stdBin, stdCmp, stdUna, stdIn, ci, beq_iff_eq, bne_iff_ne, beq_eq_false_iff_ne, bne_eq_false_iff_eq, decide_eq_true_eq, decide_eq_false_iff_not, Bool.not_true, Bool.not_false, Bool.not_eq_true', Bool.not_eq_false', Bool.not_not, tn0, tn1, tn2, tn3, outF] at *); all_goals (try omega))
  all_goals (try (show Value.int .i64 _ = Value.int .i64 (outV n k s p); refine congrArg _ ?_; unfold outV; first | (rw [if_neg (by omega)]) | (rw [if_pos (by omega)])))
  all_goals (have q := tdiv_in (a := n + 2 * p - k) (b := s) (by omega) (by omega); rw [w64 (by omega) (by omega)])
  all_goals first | omega | rfl | trace_state
def plAF (xa : List AV) : Int := match xa with
  | [.z h, .z w, .z k, .z s, .z p] => outV h k s p
  | _ => 0
def plBF (xa : List AV) : Int := match xa with
  | [.z h, .z w, .z k, .z s, .z p] => outV w k s p
  | _ => 0
theorem rplane_ok : CtrOk Try.prog 63 (twoC [.int .i64, .int .i64, .int .i64, .int .i64, .int .i64] plAF plBF) := by
  obtain ⟨G, hG⟩ : ∃ G : List (FuncId × Ctr), G = [(75, intC [.int .i64, .int .i64, .int .i64, .int .i64] .i64 outF)] := ⟨_, rfl⟩
  refine fn_ok (ck := true) Try.func63 rfl tt_ok (G := G) (by rw [hG]; exact ⟨⟨rout10_ok, by unfold FnOk; kernel_rfl⟩, trivial⟩) mixed (by kernel_rfl) ?_
  intro xa xs h hx hp
  obtain ⟨a0, as0, x0, xs0, rfl, rfl, h0, H1⟩ := svArgs_cons h
  obtain ⟨a1, as1, x1, xs1, rfl, rfl, h1, H2⟩ := svArgs_cons H1
  obtain ⟨a2, as2, x2, xs2, rfl, rfl, h2, H3⟩ := svArgs_cons H2
  obtain ⟨a3, as3, x3, xs3, rfl, rfl, h3, H4⟩ := svArgs_cons H3
  obtain ⟨a4, as4, x4, xs4, rfl, rfl, h4, H5⟩ := svArgs_cons H4
  obtain ⟨rfl, rfl⟩ := svArgs_nil H5
  obtain ⟨u, rfl, rfl⟩ := argSV_int h0
  obtain ⟨w, rfl, rfl⟩ := argSV_int h1
  obtain ⟨k, rfl, rfl⟩ := argSV_int h2
  obtain ⟨s, rfl, rfl⟩ := argSV_int h3
  obtain ⟨p, rfl, rfl⟩ := argSV_int h4
  have su := of_i64 (hx (.v (.int .i64 u)) (by simp))
  have sw := of_i64 (hx (.v (.int .i64 w)) (by simp))
  have sk := of_i64 (hx (.v (.int .i64 k)) (by simp))
  have ss := of_i64 (hx (.v (.int .i64 s)) (by simp))
  have sp := of_i64 (hx (.v (.int .i64 p)) (by simp))
  have SU := Lib.hid su
  clear su
  have SW := Lib.hid sw
  clear sw
  have SK := Lib.hid sk
  clear sk
  have SS := Lib.hid ss
  clear ss
  have SP := Lib.hid sp
  clear sp
  clear hx hp h h0 H1 h1 H2 h2 H3 h3 H4 h4 H5
  generalize hA : std = A
  subst hG
  generalize h_c : ci = c
  generalize h_fo : outF = fo
  generalize h_fA : plAF = fA
  generalize h_fB : plBF = fB
  cbv
  (repeat' (first | apply And.intro | apply BrB.mk | apply BrP.mk | intro _))
  (all_goals (subst hA; subst h_c; subst h_fo; subst h_fA; subst h_fB); all_goals (have f_su := SU.out; have f_sw := SW.out; have f_sk := SK.out; have f_ss := SS.out; have f_sp := SP.out); all_goals (try simp only [std, stdBin, stdCmp, stdUna, stdIn, ci, beq_iff_eq, bne_iff_ne, beq_eq_false_iff_ne, bne_eq_false_iff_eq, decide_eq_true_eq, decide_eq_false_iff_not, Bool.not_true, Bool.not_false, Bool.not_eq_true', Bool.not_eq_false', Bool.not_not, tn0, tn1, tn2, tn3, outF, plAF, plBF] at *); all_goals (try omega))
  all_goals first | rfl | trace_state
def rmkNilF (xa : List AV) : Bool := match xa with
  | [.st [.z k, .z o, .z w, .z s, .z p, .z f, .b z], .l t, .d d] => mkNil k t
  | _ => false
def rmkVF (xa : List AV) : List Int := match xa with
  | [.st [.z k, .z o, .z w, .z s, .z p, .z f, .b z], .l t, .d d] => mkV k o w s p t
  | _ => []
def rmkOkF (xa : List AV) : Bool := match xa with
  | [.st [.z k, .z o, .z w, .z s, .z p, .z f, .b z], .l t, .d d] => mkOk k w s p t (rowAt d f.toNat)
  | _ => false
def rmkP (xa : List AV) : Prop := match xa with
  | [.st [.z k, .z o, .z w, .z s, .z p, .z f, .b z], .l t, .d d] => mayD t = true ∧ ((k = 3 ∨ k = 4) → p = 0) ∧ d.ls.length ≤ 13 ∧ (k = 7 → 0 ≤ f ∧ f < d.ls.length)
  | _ => False
def rmkC (tI : TypeId) (p : List AV → Prop) (nl : List AV → Bool) (v : List AV → List Int) (ok : List AV → Bool) : Ctr :=
  ⟨[layTy, .sl (.int .i64), .sl (.sl (.int .i64))], fun xa => some (p xa), fun xa => .ite (nl xa = true) (.ret (.tup [.v (.slice none 0 0), .v (.bool false)]) []) (.ret (.tup [.hdl 0, .v (.bool (ok xa))]) [(0, .irow tI .i64 (v xa))]), false⟩
theorem prod_take {t : List Int} (h : mayD t = true) (x : Nat) : 1 ≤ prodFrom 1 (t.take x) ∧ prodFrom 1 (t.take x) ≤ 8192 := by
  obtain ⟨_, h2, h3⟩ := (mayD_iff t).1 h
  have h4 := prodFrom_pos 1 (t.take x) (by decide) (fun y hy => h2 y (List.mem_of_mem_take hy))
  have h5 := prodFrom_pos (prodFrom 1 (t.take x)) (t.drop x) h4 (fun y hy => h2 y (List.mem_of_mem_drop hy))
  have h6 : prodFrom (prodFrom 1 (t.take x)) (t.drop x) = prodFrom 1 t := by
    unfold prodFrom
    rw [← List.foldl_append, List.take_append_drop]
  omega
theorem prod_succ {t : List Int} {x : Nat} (h : x < t.length) : prodFrom 1 (t.take (x + 1)) = prodFrom 1 (t.take x) * t.getD x 0 := by
  unfold prodFrom
  rw [← List.take_append_getElem h, List.foldl_append, List.getD_eq_getElem?_getD, List.getElem?_eq_getElem h]
  rfl
theorem prod_all {t : List Int} (h : mayD t = true) {x : Nat} (hx : x = t.length) : prodFrom 1 (t.take x) = szD t := by
  subst hx
  rw [List.take_length]
  unfold szD
  rw [if_pos h]
theorem rafter_ok : CtrOk Try.prog 34 (rmkC 3 rmkP rmkNilF rmkVF rmkOkF) := by
  obtain ⟨G, hG⟩ : ∃ G : List (FuncId × Ctr), G = [(63, twoC [.int .i64, .int .i64, .int .i64, .int .i64, .int .i64] plAF plBF), (14, boolC [.sl (.int .i64), .sl (.int .i64)] eqF)] := ⟨_, rfl⟩
  refine fn_ok (ck := true) Try.func34 rfl tt_ok (G := G) (by rw [hG]; exact ⟨⟨rplane_ok, by unfold FnOk; kernel_rfl⟩, ⟨rsame_ok, by unfold FnOk; kernel_rfl⟩, trivial⟩) mixed (by kernel_rfl) ?_
  intro xa xs h hx hp
  obtain ⟨a0, as0, x0, xs0, rfl, rfl, h0, H1⟩ := svArgs_cons h
  obtain ⟨a1, as1, x1, xs1, rfl, rfl, h1, H2⟩ := svArgs_cons H1
  obtain ⟨a2, as2, x2, xs2, rfl, rfl, h2, H3⟩ := svArgs_cons H2
  obtain ⟨rfl, rfl⟩ := svArgs_nil H3
  obtain ⟨lk, lo, lw, ls, lp, lf, lz, rfl, rfl⟩ := argSV_lay h0
  obtain ⟨t, rfl, rfl⟩ := argSV_ints h1
  obtain ⟨d, rfl, rfl⟩ := argSV_rr h2
  have sl : (-9223372036854775808 ≤ lk ∧ lk ≤ 9223372036854775807) ∧ (-9223372036854775808 ≤ lo ∧ lo ≤ 9223372036854775807) ∧ (-9223372036854775808 ≤ lw ∧ lw ≤ 9223372036854775807) ∧ (-9223372036854775808 ≤ ls ∧ ls ≤ 9223372036854775807) ∧ (-9223372036854775808 ≤ lp ∧ lp ≤ 9223372036854775807) ∧ (-9223372036854775808 ≤ lf ∧ lf ≤ 9223372036854775807) := svf_lay (hx (.agg [.v (.int .i64 lk), .v (.int .i64 lo), .v (.int .i64 lw), .v (.int .i64 ls), .v (.int .i64 lp), .v (.int .i64 lf), .v (.bool lz)]) (List.mem_of_getElem? (i := 0) rfl))
  have st : Fits .i64 t ∧ ci t.length ≤ 9223372036854775807 := svf_ints (hx (.iimm .i64 t) (by simp))
  have sd : ci d.ls.length ≤ 9223372036854775807 ∧ Wt (.sl (.sl (.int .i64))) d := ⟨wtl_len (hx (.imm (.sl (.int .i64)) d) (List.mem_of_getElem? (i := 2) rfl)), hx (.imm (.sl (.int .i64)) d) (List.mem_of_getElem? (i := 2) rfl)⟩
  have SL := Lib.hid sl
  clear sl
  have ST := Lib.hid st
  clear st
  have SD := Lib.hid sd
  clear sd
  have HP := Lib.hid (hp _ rfl)
  clear hx hp h h0 H1 h1 H2 h2 H3
  generalize hA : std = A
  subst hG
  generalize h_c : ci = c
  generalize h_fp : rmkP = fp
  generalize h_fn : rmkNilF = fn
  generalize h_fv : rmkVF = fv
  generalize h_fk : rmkOkF = fk
  generalize h_fA : plAF = fA
  generalize h_fB : plBF = fB
  generalize h_fe : eqF = fe
  obtain ⟨N, hN⟩ : ∃ N : Nat → Int, ∀ x, N x = prodFrom 1 (t.take x) := ⟨_, fun _ => rfl⟩
  have HN := Lib.hid hN
  clear hN
  cbv
  (repeat' (first | apply And.intro | apply BrB.mk | apply BrP.mk | intro _))
  all_goals try (refine loop_at Nat 69 (fun x => [(11, .v (.int .i64 (N x))), (13, .any), (69, .v (.int .i64 (c x)))]) (fun _ o => o) (fun x => x ≤ t.length) (fun x => t.length - x) 0 (Nat.zero_le _) ?_ ?_
                 focus
                   show AS.le _ _
                   cbv
                   (repeat' (first | apply And.intro | apply BrB.mk | apply BrP.mk | intro _))
                   (all_goals (subst hA; subst h_c; subst h_fp; subst h_fn; subst h_fv; subst h_fk; subst h_fA; subst h_fB; subst h_fe); all_goals (have f_sl := SL.out; have f_st := ST.out; have f_sd := SD.out; have f_hp := HP.out); all_goals (try simp only [std, stdBin, stdCmp, stdUna, stdIn, ci, beq_iff_eq, bne_iff_ne, beq_eq_false_iff_ne, bne_eq_false_iff_eq, decide_eq_true_eq, decide_eq_false_iff_not, Bool.not_true, Bool.not_false, Bool.not_eq_true', Bool.not_eq_false', Bool.not_not, tn0, tn1, tn2, tn3, eqF] at *); all_goals (try omega))
                   all_goals first | exact True.intro | rfl | (rw [HN.out]; rfl)
                   done)
  all_goals try (intro x hx; cbv; refine BrB.mk (fun gx => ?_) (fun gx => ?_))
  all_goals (repeat' (first | apply And.intro | apply BrB.mk | apply BrP.mk | intro _))
  all_goals try (refine ⟨x + 1, ?_, ?_, ?_⟩)
  all_goals try (show AS.le _ _; cbv; (repeat' (first | apply And.intro | apply BrB.mk | apply BrP.mk | intro _)))
  (all_goals (subst hA; subst h_c; subst h_fp; subst h_fn; subst h_fv; subst h_fk; subst h_fA; subst h_fB; subst h_fe); all_goals (have f_sl := SL.out; have f_st := ST.out; have f_sd := SD.out; have f_hp := HP.out); all_goals (try simp only [std, stdBin, stdCmp, stdUna, stdIn, ci, beq_iff_eq, bne_iff_ne, beq_eq_false_iff_ne, bne_eq_false_iff_eq, decide_eq_true_eq, decide_eq_false_iff_not, Bool.not_true, Bool.not_false, Bool.not_eq_true', Bool.not_eq_false', Bool.not_not, tn0, tn1, tn2, tn3, rmkNilF, rmkVF, rmkOkF, rmkP, plAF, plBF, eqF, Int.toNat_natCast] at *); all_goals (try omega))
  all_goals (obtain ⟨q1, q2, q3, q4⟩ := f_hp)
  all_goals (have ql := mayD_len q1)
  all_goals (try simp only [mkNil, mkV, mkOk, decide_eq_true_eq] at *)
  all_goals (have rr : ∀ i, (d.at i).ints = rowAt d i := fun _ => rfl)
  all_goals (try simp only [rr] at *)
  all_goals first
    | omega
    | exact True.intro
    | (have p0 := q2 (by omega); subst p0; simp_all; done)
    | (simp_all; done)
    | (refine vb ?_; rw [Bool.eq_iff_iff]; simp_all; done)
    | (refine vb ?_; rw [Bool.eq_iff_iff]; simp_all; omega)
    | (have p0 := q2 (by omega); subst p0; refine vb ?_; rw [Bool.eq_iff_iff]; simp_all; done)
    | (have p0 := q2 (by omega); subst p0; refine vb ?_; rw [Bool.eq_iff_iff]; simp_all; omega)
    | (have a1 := prod_take q1 x; have a2 := prod_take q1 (x + 1); have a3 := prod_succ (t := t) (x := x) (by omega); have a4 := HN.out x; have a5 := HN.out (x + 1); first | (rw [a4, ← a3]; omega) | (rw [a4, ← a3, a5]; done) | trace_state)
    | (have a6 := prod_all q1 (x := x) (by omega); have a4 := HN.out x; simp_all; done)
    | trace_state
end Go.Proofs.Ytnjipnklbdlgaaa
/- Layer 16: the counterparts: what each layer gives. -/
namespace Go.Proofs.Ytnjipnklbdlgaaa
open Go.RowKit
set_option maxRecDepth 1000000
set_option linter.unusedSimpArgs false
set_option linter.unusedVariables false
set_option maxHeartbeats 16000000
set_option cbv.maxSteps 10000000
theorem lay_pad {x : Dat} {i : Nat} (h : layAt x i = true) (h7 : layI x i 0 = 3 ∨ layI x i 0 = 4) : layI x i 4 = 0 := by
  unfold layAt layB at h
  unfold layI at h7 ⊢
  rcases h7 with h7 | h7 <;> rw [h7] at h <;> simp at h <;> omega
theorem rshapes_ok : FOk Try.prog 13 (shpC shpE shpN shpD) := by
  obtain ⟨G, hG⟩ : ∃ G : List (FuncId × Ctr), G = [(20, boolC [mdlTy] mdlF), (34, rmkC 3 rmkP rmkNilF rmkVF rmkOkF), (28, boolC [.sl (.int .i64)] shMayF)] := ⟨_, rfl⟩
  refine fn_inlF (ck := true) [] trivial [] trivial Try.func13 rfl tt_ok (G := G) (by rw [hG]; exact ⟨⟨rmm_ok, by unfold FnOk; kernel_rfl⟩, ⟨rafter_ok, by unfold FnOk; kernel_rfl⟩, ⟨rmay_ok, by unfold FnOk; kernel_rfl⟩, trivial⟩) mixed (by kernel_rfl) ?_
  intro xa xs h hx hp
  obtain ⟨a0, as0, x0, xs0, rfl, rfl, h0, H1⟩ := svArgs_cons h
  obtain ⟨rfl, rfl⟩ := svArgs_nil H1
  obtain ⟨mc, mh, mw, mx, rfl, rfl⟩ := argSV_mdl h0
  have sm : (-9223372036854775808 ≤ mc ∧ mc ≤ 9223372036854775807) ∧ (-9223372036854775808 ≤ mh ∧ mh ≤ 9223372036854775807) ∧ (-9223372036854775808 ≤ mw ∧ mw ≤ 9223372036854775807) ∧ ((ci mx.ls.length ≤ 9223372036854775807) ∧ Wt (.sl layTy) mx) := svf_mdl (hx (.agg [.v (.int .i64 mc), .v (.int .i64 mh), .v (.int .i64 mw), .imm layTy mx]) (List.mem_of_getElem? (i := 0) rfl))
  have SM := Lib.hid sm
  clear sm
  clear hx hp h h0 H1
  generalize hA : std = A
  subst hG
  generalize h_c : ci = c
  generalize h_fm : mdlF = fm
  generalize h_fp : rmkP = fp
  generalize h_fn : rmkNilF = fn
  generalize h_fv : rmkVF = fv
  generalize h_fk : rmkOkF = fk
  generalize h_fe : shpE = fe
  generalize h_fN : shpN = fN
  generalize h_fD : shpD = fD
  generalize h_fd : shMayF = fd
  obtain ⟨S, hS⟩ : ∃ S : Nat → Dat, ∀ k, S k = rowsD (shp mc mh mw mx k) := ⟨_, fun _ => rfl⟩
  have HS := Lib.hid hS
  clear hS
  cbv
  (repeat' (first | apply And.intro | apply BrB.mk | apply BrP.mk | intro _))
  (all_goals try (exfalso; (subst hA; subst h_c; subst h_fm; subst h_fp; subst h_fn; subst h_fv; subst h_fk; subst h_fe; subst h_fN; subst h_fD; subst h_fd); (try simp only [std, stdBin, stdCmp, stdUna, stdIn, ci, beq_iff_eq, bne_iff_ne, beq_eq_false_iff_ne, bne_eq_false_iff_eq, decide_eq_true_eq, decide_eq_false_iff_not, Bool.not_true, Bool.not_false, Bool.not_eq_true', Bool.not_eq_false', Bool.not_not, tn0, tn1, tn2, tn3] at *); first | omega | contradiction))
  all_goals try (refine loop_nil (hR := ?hR) [.row 5 (.sl (.int .i64))] Nat 27 (fun k => [(2, .v (.slice none 0 0)), (3, .v (.int .i64 0)), (4, .v (.int .i64 0)), (5, .hdl 2), (6, .any), (7, .any), (8, .any), (9, .any), (23, .any), (27, .v (.int .i64 (c k)))]) (fun k o => o.set 2 (.srow 32 (.sl (.int .i64)) (S k))) (fun k => k ≤ mx.ls.length ∧ ∀ i, i < k → shErr mc mh mw mx i = 0) (fun k => mx.ls.length - k) 0 ?h0 ?hle ?round)
  case hR => exact True.intro
  case h0 => exact ⟨Nat.zero_le _, fun i hi => absurd hi (Nat.not_lt_zero _)⟩
  case hle =>
    cbv
    (repeat' (first | apply And.intro | apply BrB.mk | apply BrP.mk | intro _))
    (all_goals (subst hA; subst h_c; subst h_fm; subst h_fp; subst h_fn; subst h_fv; subst h_fk; subst h_fe; subst h_fN; subst h_fD; subst h_fd); all_goals (have f_sm := SM.out); all_goals (try simp only [std, stdBin, stdCmp, stdUna, stdIn, ci, beq_iff_eq, bne_iff_ne, beq_eq_false_iff_ne, bne_eq_false_iff_eq, decide_eq_true_eq, decide_eq_false_iff_not, Bool.not_true, Bool.not_false, Bool.not_eq_true', Bool.not_eq_false', Bool.not_not, tn0, tn1, tn2, tn3] at *); all_goals (try omega))
    all_goals first | exact True.intro | rfl | (rw [HS.out]; rfl) | trace_state
  case round =>
    rintro k ⟨hk, hE⟩
    cbv
    refine BrB.mk (fun gx => ?yx) (fun gx => ?nx)
    case yx =>
      (repeat' (first | apply And.intro | apply BrB.mk | apply BrP.mk | intro _))
      (all_goals try (exfalso; (subst hA; subst h_c; subst h_fm; subst h_fp; subst h_fn; subst h_fv; subst h_fk; subst h_fe; subst h_fN; subst h_fD; subst h_fd); (try simp only [std, stdBin, stdCmp, stdUna, stdIn, ci, beq_iff_eq, bne_iff_ne, beq_eq_false_iff_ne, bne_eq_false_iff_eq, decide_eq_true_eq, decide_eq_false_iff_not, Bool.not_true, Bool.not_false, Bool.not_eq_true', Bool.not_eq_false', Bool.not_not, tn0, tn1, tn2, tn3] at *); first | omega | contradiction))
      all_goals try (refine ⟨k + 1, ?jI, ?jL, ?jM⟩)
      case jL =>
        cbv
        (repeat' (first | apply And.intro | apply BrB.mk | apply BrP.mk | intro _))
        (all_goals (subst hA; subst h_c; subst h_fm; subst h_fp; subst h_fn; subst h_fv; subst h_fk; subst h_fe; subst h_fN; subst h_fD; subst h_fd); all_goals (have f_sm := SM.out); all_goals (try simp only [std, stdBin, stdCmp, stdUna, stdIn, ci, beq_iff_eq, bne_iff_ne, beq_eq_false_iff_ne, bne_eq_false_iff_eq, decide_eq_true_eq, decide_eq_false_iff_not, Bool.not_true, Bool.not_false, Bool.not_eq_true', Bool.not_eq_false', Bool.not_not, tn0, tn1, tn2, tn3, rmkVF, HS.out, lastR_shp, rowsD_at, rowsD_at', Int.toNat_natCast] at *); all_goals (try omega))
        all_goals (try simp only [shp_at (Nat.le_refl k)] at *)
        all_goals first | exact True.intro | rfl | (exact rowsD_app _ _) | trace_state
      (all_goals (subst hA; subst h_c; subst h_fm; subst h_fp; subst h_fn; subst h_fv; subst h_fk; subst h_fe; subst h_fN; subst h_fD; subst h_fd); all_goals (have f_sm := SM.out); all_goals (try simp only [std, stdBin, stdCmp, stdUna, stdIn, ci, beq_iff_eq, bne_iff_ne, beq_eq_false_iff_ne, bne_eq_false_iff_eq, decide_eq_true_eq, decide_eq_false_iff_not, Bool.not_true, Bool.not_false, Bool.not_eq_true', Bool.not_eq_false', Bool.not_not, tn0, tn1, tn2, tn3, mdlF, rmkNilF, rmkVF, rmkOkF, rmkP, shMayF, shpE, shpN, shpD, HS.out, lastR_shp, rowsD_at, rowsD_at', rowsD_len, shp_len, Int.toNat_natCast] at *); all_goals (try omega))
      all_goals (try simp only [shp_at (Nat.le_refl k)] at *)
      all_goals (have hm : mdlB mc mh mw mx = true := by assumption)
      all_goals (obtain ⟨m1, m2, m3, m4, m5⟩ := mdl_of hm)
      all_goals (have hkn : k < mx.ls.length := by omega)
      all_goals first
        | (refine ⟨shT_may hm hE k (Nat.le_refl k), fun h3 => ?_, by omega, fun h7 => ?_⟩
           · exact lay_pad (m5 k hkn) h3
           · have q := lay_seven (m5 k hkn) h7
             unfold layI at q
             omega)
        | (refine ⟨by omega, fun i hi => ?_⟩
           by_cases e : i = k
           · subst e
             refine shErr_zero ?_ (by assumption) (by rw [shT_succ]; assumption)
             exact Bool.eq_false_iff.2 (by assumption)
           · exact hE i (by omega))
        | (have he : shErr mc mh mw mx k = 2 := shErr_two (by first | exact .inl (by assumption) | exact .inr (by assumption))
           have hR := shpR_hit hm hkn hE he (by decide)
           first | (rw [hR]; done) | (exfalso; have h2 : (shpR mc mh mw mx).2 = 2 := (by rw [hR]); omega))
        | (have he : shErr mc mh mw mx k = 1 := shErr_one (Bool.eq_false_iff.2 (by assumption)) (by assumption) (by rw [shT_succ]; assumption)
           have hR := shpR_hit hm hkn hE he (by decide)
           first | (rw [hR]; done) | (exfalso; have h2 : (shpR mc mh mw mx).2 = 1 := (by rw [hR]); omega))
        | omega
        | (simp only [Dat.ls, List.length_cons, List.length_nil]; omega)
        | trace_state
    case nx =>
      (repeat' (first | apply And.intro | apply BrB.mk | apply BrP.mk | intro _))
      (all_goals (subst hA; subst h_c; subst h_fm; subst h_fp; subst h_fn; subst h_fv; subst h_fk; subst h_fe; subst h_fN; subst h_fD; subst h_fd); all_goals (have f_sm := SM.out); all_goals (try simp only [std, stdBin, stdCmp, stdUna, stdIn, ci, beq_iff_eq, bne_iff_ne, beq_eq_false_iff_ne, bne_eq_false_iff_eq, decide_eq_true_eq, decide_eq_false_iff_not, Bool.not_true, Bool.not_false, Bool.not_eq_true', Bool.not_eq_false', Bool.not_not, tn0, tn1, tn2, tn3, mdlF, shpE, shpN, shpD, HS.out, Int.toNat_natCast] at *); all_goals (try omega))
      all_goals (have hm : mdlB mc mh mw mx = true := by assumption)
      all_goals (have e : k = mx.ls.length := by omega)
      all_goals (subst e)
      all_goals (have hR := shpR_all hm hE)
      all_goals first | rfl | (rw [hR]; done) | (exfalso; have h2 : (shpR mc mh mw mx).2 = 0 := (by rw [hR]); omega) | trace_state
  (all_goals (subst hA; subst h_c; subst h_fm; subst h_fp; subst h_fn; subst h_fv; subst h_fk; subst h_fe; subst h_fN; subst h_fD; subst h_fd); all_goals (have f_sm := SM.out); all_goals (try simp only [std, stdBin, stdCmp, stdUna, stdIn, ci, beq_iff_eq, bne_iff_ne, beq_eq_false_iff_ne, bne_eq_false_iff_eq, decide_eq_true_eq, decide_eq_false_iff_not, Bool.not_true, Bool.not_false, Bool.not_eq_true', Bool.not_eq_false', Bool.not_not, tn0, tn1, tn2, tn3, mdlF, shpE, shpN, shpD] at *); all_goals (try omega))
  all_goals first | (have hR := shpR_one (c := mc) (h := mh) (w := mw) (x := mx) (by assumption); first | (rw [hR]; done) | (exfalso; have h2 : (shpR mc mh mw mx).2 = 1 := (by rw [hR]); omega)) | trace_state
end Go.Proofs.Ytnjipnklbdlgaaa
/- Layer 16: the counterparts: the lengths of weights, of sums; the longest. -/
namespace Go.Proofs.Ytnjipnklbdlgaaa
open Go.RowKit
set_option maxRecDepth 1000000
set_option linter.unusedSimpArgs false
set_option linter.unusedVariables false
set_option maxHeartbeats 16000000
set_option cbv.maxSteps 10000000
def dmV (k o w t : Int) : List Int := if k = 1 then [o, t] else if k = 2 then [o, t, w, w] else []
def dmN (k o : Int) : Int := if k = 1 ∨ k = 2 then o else 0
def dmVF (xa : List AV) : List Int := match xa with
  | [.st [.z k, .z o, .z w, .z s, .z p, .z f, .b z], .l t] => dmV k o w (t.getD 0 0)
  | _ => []
def dmNF (xa : List AV) : Int := match xa with
  | [.st [.z k, .z o, .z w, .z s, .z p, .z f, .b z], .l t] => dmN k o
  | _ => 0
def dmP (xa : List AV) : Prop := match xa with
  | [.st [.z k, .z o, .z w, .z s, .z p, .z f, .b z], .l t] => 1 ≤ t.length
  | _ => False
def rowIC (ts : List Ty) (tI : TypeId) (p : List AV → Prop) (r : List AV → List Int) (n : List AV → Int) : Ctr :=
  ⟨ts, fun xa => some (p xa), fun xa => .ret (.tup [.hdl 0, .v (.int .i64 (n xa))]) [(0, .irow tI .i64 (r xa))], false⟩
theorem rdims_ok : CtrOk Try.prog 41 (rowIC [layTy, .sl (.int .i64)] 3 dmP dmVF dmNF) := by
  obtain ⟨G, hG⟩ : ∃ G : List (FuncId × Ctr), G = [] := ⟨_, rfl⟩
  refine fn_ok (ck := true) Try.func41 rfl tt_ok (G := G) (by rw [hG]; exact trivial) mixed (by kernel_rfl) ?_
  intro xa xs h hx hp
  obtain ⟨a0, as0, x0, xs0, rfl, rfl, h0, H1⟩ := svArgs_cons h
  obtain ⟨a1, as1, x1, xs1, rfl, rfl, h1, H2⟩ := svArgs_cons H1
  obtain ⟨rfl, rfl⟩ := svArgs_nil H2
  obtain ⟨lk, lo, lw, ls, lp, lf, lz, rfl, rfl⟩ := argSV_lay h0
  obtain ⟨t, rfl, rfl⟩ := argSV_ints h1
  have sl : (-9223372036854775808 ≤ lk ∧ lk ≤ 9223372036854775807) ∧ (-9223372036854775808 ≤ lo ∧ lo ≤ 9223372036854775807) ∧ (-9223372036854775808 ≤ lw ∧ lw ≤ 9223372036854775807) ∧ (-9223372036854775808 ≤ ls ∧ ls ≤ 9223372036854775807) ∧ (-9223372036854775808 ≤ lp ∧ lp ≤ 9223372036854775807) ∧ (-9223372036854775808 ≤ lf ∧ lf ≤ 9223372036854775807) := svf_lay (hx (.agg [.v (.int .i64 lk), .v (.int .i64 lo), .v (.int .i64 lw), .v (.int .i64 ls), .v (.int .i64 lp), .v (.int .i64 lf), .v (.bool lz)]) (List.mem_of_getElem? (i := 0) rfl))
  have st : Fits .i64 t ∧ ci t.length ≤ 9223372036854775807 := svf_ints (hx (.iimm .i64 t) (by simp))
  have SL := Lib.hid sl
  clear sl
  have ST := Lib.hid st
  clear st
  have HP := Lib.hid (hp _ rfl)
  clear hx hp h h0 H1 h1 H2
  generalize hA : std = A
  subst hG
  generalize h_c : ci = c
  generalize h_fp : dmP = fp
  generalize h_fv : dmVF = fv
  generalize h_fn : dmNF = fn
  cbv
  (repeat' (first | apply And.intro | apply BrB.mk | apply BrP.mk | intro _))
  (all_goals (subst hA; subst h_c; subst h_fp; subst h_fv; subst h_fn); all_goals (have f_sl := SL.out; have f_st := ST.out; have f_hp := HP.out); all_goals (try simp only [std, stdBin, stdCmp, stdUna, stdIn, ci, beq_iff_eq, bne_iff_ne, beq_eq_false_iff_ne, bne_eq_false_iff_eq, decide_eq_true_eq, decide_eq_false_iff_not, Bool.not_true, Bool.not_false, Bool.not_eq_true', Bool.not_eq_false', Bool.not_not, tn0, tn1, tn2, tn3, dmVF, dmNF, dmP, dmV, dmN] at *); all_goals (try omega))
  all_goals (have q : 1 ≤ t.length := f_hp)
  all_goals first | omega | (simp_all; done) | trace_state
def lnV (k o w t g1 g2 b : Int) : List Int := if k = 1 then [t, o, b] else if k = 2 then [t * w * w, o * w * w, b * g1 * g2] else []
def lnF (xa : List AV) : List Int := match xa with
  | [.st [.z k, .z o, .z w, .z s, .z p, .z f, .b z], .l t, .l g, .z b] => lnV k o w (t.getD 0 0) (g.getD 1 0) (g.getD 2 0) b
  | _ => []
theorem rlens_ok : CtrOk Try.prog 43 (rowP [layTy, .sl (.int .i64), .sl (.int .i64), .int .i64] 3 .i64 prdP lnF) := by
  obtain ⟨G, hG⟩ : ∃ G : List (FuncId × Ctr), G = [] := ⟨_, rfl⟩
  refine fn_ok (ck := true) Try.func43 rfl tt_ok (G := G) (by rw [hG]; exact trivial) mixed (by kernel_rfl) ?_
  intro xa xs h hx hp
  obtain ⟨a0, as0, x0, xs0, rfl, rfl, h0, H1⟩ := svArgs_cons h
  obtain ⟨a1, as1, x1, xs1, rfl, rfl, h1, H2⟩ := svArgs_cons H1
  obtain ⟨a2, as2, x2, xs2, rfl, rfl, h2, H3⟩ := svArgs_cons H2
  obtain ⟨a3, as3, x3, xs3, rfl, rfl, h3, H4⟩ := svArgs_cons H3
  obtain ⟨rfl, rfl⟩ := svArgs_nil H4
  obtain ⟨lk, lo, lw, ls, lp, lf, lz, rfl, rfl⟩ := argSV_lay h0
  obtain ⟨t, rfl, rfl⟩ := argSV_ints h1
  obtain ⟨g, rfl, rfl⟩ := argSV_ints h2
  obtain ⟨b, rfl, rfl⟩ := argSV_int h3
  have sl : (-9223372036854775808 ≤ lk ∧ lk ≤ 9223372036854775807) ∧ (-9223372036854775808 ≤ lo ∧ lo ≤ 9223372036854775807) ∧ (-9223372036854775808 ≤ lw ∧ lw ≤ 9223372036854775807) ∧ (-9223372036854775808 ≤ ls ∧ ls ≤ 9223372036854775807) ∧ (-9223372036854775808 ≤ lp ∧ lp ≤ 9223372036854775807) ∧ (-9223372036854775808 ≤ lf ∧ lf ≤ 9223372036854775807) := svf_lay (hx (.agg [.v (.int .i64 lk), .v (.int .i64 lo), .v (.int .i64 lw), .v (.int .i64 ls), .v (.int .i64 lp), .v (.int .i64 lf), .v (.bool lz)]) (List.mem_of_getElem? (i := 0) rfl))
  have st : Fits .i64 t ∧ ci t.length ≤ 9223372036854775807 := svf_ints (hx (.iimm .i64 t) (by simp))
  have sg : Fits .i64 g ∧ ci g.length ≤ 9223372036854775807 := svf_ints (hx (.iimm .i64 g) (by simp))
  have sb := of_i64 (hx (.v (.int .i64 b)) (by simp))
  have SL := Lib.hid sl
  clear sl
  have ST := Lib.hid st
  clear st
  have SG := Lib.hid sg
  clear sg
  have SB := Lib.hid sb
  clear sb
  have HP := Lib.hid (hp _ rfl)
  clear hx hp h h0 H1 h1 H2 h2 H3 h3 H4
  generalize hA : std = A
  subst hG
  generalize h_c : ci = c
  generalize h_fp : prdP = fp
  generalize h_fv : lnF = fv
  cbv
  (repeat' (first | apply And.intro | apply BrB.mk | apply BrP.mk | intro _))
  (all_goals (subst hA; subst h_c; subst h_fp; subst h_fv); all_goals (have f_sl := SL.out; have f_st := ST.out; have f_sg := SG.out; have f_sb := SB.out; have f_hp := HP.out); all_goals (try simp only [std, stdBin, stdCmp, stdUna, stdIn, ci, beq_iff_eq, bne_iff_ne, beq_eq_false_iff_ne, bne_eq_false_iff_eq, decide_eq_true_eq, decide_eq_false_iff_not, Bool.not_true, Bool.not_false, Bool.not_eq_true', Bool.not_eq_false', Bool.not_not, tn0, tn1, tn2, tn3, lnF, lnV, prdP] at *); all_goals (try omega))
  all_goals (have q1 := mayD_len f_hp.2.1; have q2 := mayD_at f_hp.2.1 (i := 0) (by omega); have q3 := f_hp.1; unfold layN at q3)
  all_goals first
    | omega
    | (have m1 := mulI (a := t.getD 0 0) (b := lw) (A := 4096) (B := 5) (by omega) (by omega); have m2 := mulI (b := lw) (B := 5) m1 (by omega); have n1 := mulI (a := lo) (b := lw) (A := 8) (B := 5) (by omega) (by omega); have n2 := mulI (b := lw) (B := 5) n1 (by omega); have g1 := mayD_at f_hp.2.2.1 (i := 1) (by omega); have g2 := mayD_at f_hp.2.2.1 (i := 2) (by omega); have k1 := mulI (a := b) (b := g.getD 1 0) (A := 8) (B := 4096) (by omega) (by omega); have k2 := mulI (b := g.getD 2 0) (B := 4096) k1 (by omega); first | omega | (simp_all; done))
    | (simp_all; done)
    | trace_state
theorem mxx_le (a b : Int) : a ≤ mx a b ∧ b ≤ mx a b ∧ (mx a b = a ∨ mx a b = b) := by
  unfold mx; split <;> omega
theorem ln_fold {k o w t g1 g2 b a : Int} (ha : 0 ≤ a) : (lnV k o w t g1 g2 b).foldl mx a = mx a (prdV k o w t g1 g2 b) := by
  unfold lnV prdV
  split
  · simp only [List.foldl]
    have h1 := mxx_le a t; have h2 := mxx_le (mx a t) o; have h3 := mxx_le (mx (mx a t) o) b
    have h4 := mxx_le t o; have h5 := mxx_le (mx t o) b; have h6 := mxx_le a (mx (mx t o) b)
    omega
  · split
    · simp only [List.foldl]
      generalize t * w * w = X
      generalize o * w * w = Y
      generalize b * g1 * g2 = Z
      have h1 := mxx_le a X; have h2 := mxx_le (mx a X) Y; have h3 := mxx_le (mx (mx a X) Y) Z
      have h4 := mxx_le X Y; have h5 := mxx_le (mx X Y) Z; have h6 := mxx_le a (mx (mx X Y) Z)
      omega
    · simp only [List.foldl]
      have h1 := mxx_le a 0
      omega
theorem ln_fit {k o w t g1 g2 b : Int} (hk : k = 1 → 0 ≤ t ∧ 0 ≤ o ∧ 0 ≤ b) (hk2 : k = 2 → 0 ≤ t * w * w ∧ 0 ≤ o * w * w ∧ 0 ≤ b * g1 * g2) : (lnV k o w t g1 g2 b).all fitsN = fitsN (prdV k o w t g1 g2 b) := by
  rw [Bool.eq_iff_iff]
  unfold lnV prdV fitsN
  split
  · rename_i h
    have hh := hk h
    simp only [List.all_cons, List.all_nil, Bool.and_true, Bool.and_eq_true, decide_eq_true_eq]
    have h4 := mxx_le t o; have h5 := mxx_le (mx t o) b
    omega
  · split
    · rename_i _ h
      have hh := hk2 h
      simp only [List.all_cons, List.all_nil, Bool.and_true, Bool.and_eq_true, decide_eq_true_eq]
      generalize t * w * w = X at *
      generalize o * w * w = Y at *
      generalize b * g1 * g2 = Z at *
      have h4 := mxx_le X Y; have h5 := mxx_le (mx X Y) Z
      omega
    · simp
def dmI (x : Dat) (c h w : Int) (i : Nat) : List Int := dmV (layI x i 0) (layI x i 1) (layI x i 2) ((shT c h w x i).getD 0 0)
def lnI (c h w : Int) (x : Dat) (b : Int) (i : Nat) : List Int := lnV (layI x i 0) (layI x i 1) (layI x i 2) ((shT c h w x i).getD 0 0) ((shT c h w x (i + 1)).getD 1 0) ((shT c h w x (i + 1)).getD 2 0) b
/-- What the counterpart asks of a layer's room. -/
theorem dm_room {k o w : Int} {t : List Int} (hl : layN k o w) (ht : mayD t = true) : (0 < (dmV k o w (t.getD 0 0)).length ∧ mayD (dmV k o w (t.getD 0 0)) = false) ↔ 8192 < wgtV k o w (t.getD 0 0) := by
  have q1 := mayD_len ht
  have q2 := mayD_at ht (i := 0) (by omega)
  unfold layN at hl
  generalize t.getD 0 0 = z at q2
  unfold dmV wgtV
  by_cases h1 : k = 1
  · rw [if_pos h1, if_pos h1]
    have := hl.1 h1
    rw [← Bool.not_eq_true, mayD_iff]
    simp [prodFrom]
    omega
  · rw [if_neg h1, if_neg h1]
    by_cases h2 : k = 2
    · rw [if_pos h2, if_pos h2]
      have := hl.2 h2
      rw [← Bool.not_eq_true, mayD_iff]
      simp [prodFrom]
      omega
    · rw [if_neg h2, if_neg h2]
      simp
theorem longUp_nn (c h w : Int) (x : Dat) (b : Int) : ∀ k, 0 ≤ longUp c h w x b k
  | 0 => Int.le_refl _
  | k + 1 => by
    have h1 := longUp_nn c h w x b k
    unfold longUp
    have := mxx_le (longUp c h w x b k) (prdI c h w x b k)
    omega
def foldM (l : List Int) (a : Int) : Int := l.foldl mx a
theorem take_fold {l : List Int} {j : Nat} {a : Int} (h : j < l.length) : foldM (l.take (j + 1)) a = mx (foldM (l.take j) a) (l.getD j 0) := by
  unfold foldM
  rw [← List.take_append_getElem h, List.foldl_append, List.getD_eq_getElem?_getD, List.getElem?_eq_getElem h]
  rfl
theorem long_step {c h w : Int} {x : Dat} {b : Int} {k j : Nat} (hj : j = (lnI c h w x b k).length) : foldM ((lnI c h w x b k).take j) (longUp c h w x b k) = longUp c h w x b (k + 1) := by
  unfold foldM
  subst hj
  rw [List.take_length]
  unfold lnI
  rw [ln_fold (longUp_nn c h w x b k)]
  rfl
theorem lnV_len (k o w t g1 g2 b : Int) : (lnV k o w t g1 g2 b).length ≤ 3 := by
  unfold lnV; split <;> (try split) <;> simp
theorem rlong_ok : CtrOk Try.prog 18 (intC [mdlTy, .int .i64] .i64 longF) := by
  obtain ⟨G, hG⟩ : ∃ G : List (FuncId × Ctr), G = [(40, boolC [.int .i64, .int .i64, .int .i64] inF), (41, rowIC [layTy, .sl (.int .i64)] 3 dmP dmVF dmNF), (43, rowP [layTy, .sl (.int .i64), .sl (.int .i64), .int .i64] 3 .i64 prdP lnF), (42, intC [.sl (.int .i64)] .i64 szF), (28, boolC [.sl (.int .i64)] shMayF)] := ⟨_, rfl⟩
  refine fn_inl2 (ck := true) rfl [(13, shpC shpE shpN shpD)] ⟨⟨by unfold FnOk; kernel_rfl, rshapes_ok⟩, trivial⟩ [] trivial Try.func18 rfl tt_ok (G := G) (by rw [hG]; exact ⟨⟨rin10_ok, by unfold FnOk; kernel_rfl⟩, ⟨rdims_ok, by unfold FnOk; kernel_rfl⟩, ⟨rlens_ok, by unfold FnOk; kernel_rfl⟩, ⟨rsize_ok, by unfold FnOk; kernel_rfl⟩, ⟨rmay_ok, by unfold FnOk; kernel_rfl⟩, trivial⟩) mixed (by kernel_rfl) ?_
  intro xa xs h hx hp
  obtain ⟨a0, as0, x0, xs0, rfl, rfl, h0, H1⟩ := svArgs_cons h
  obtain ⟨a1, as1, x1, xs1, rfl, rfl, h1, H2⟩ := svArgs_cons H1
  obtain ⟨rfl, rfl⟩ := svArgs_nil H2
  obtain ⟨mc, mh, mw, mx, rfl, rfl⟩ := argSV_mdl h0
  obtain ⟨b, rfl, rfl⟩ := argSV_int h1
  have sm : (-9223372036854775808 ≤ mc ∧ mc ≤ 9223372036854775807) ∧ (-9223372036854775808 ≤ mh ∧ mh ≤ 9223372036854775807) ∧ (-9223372036854775808 ≤ mw ∧ mw ≤ 9223372036854775807) ∧ ((ci mx.ls.length ≤ 9223372036854775807) ∧ Wt (.sl layTy) mx) := svf_mdl (hx (.agg [.v (.int .i64 mc), .v (.int .i64 mh), .v (.int .i64 mw), .imm layTy mx]) (List.mem_of_getElem? (i := 0) rfl))
  have sb := of_i64 (hx (.v (.int .i64 b)) (by simp))
  have SM := Lib.hid sm
  clear sm
  have SB := Lib.hid sb
  clear sb
  clear hx hp h h0 H1 h1 H2
  generalize hA : std = A
  subst hG
  generalize h_c : ci = c
  generalize h_fe : shpE = fe
  generalize h_fN : shpN = fN
  generalize h_fD : shpD = fD
  generalize h_fi : inF = fi
  generalize h_fv : dmVF = fv
  generalize h_fn : dmNF = fn
  generalize h_fp : dmP = fp
  generalize h_fl : lnF = fl
  generalize h_pl : prdP = pl
  generalize h_fz : szF = fz
  generalize h_fm : shMayF = fm
  generalize h_gL : longF = gL
  obtain ⟨L, hL⟩ : ∃ L : Nat → Int, ∀ k, L k = longUp mc mh mw mx b k := ⟨_, fun _ => rfl⟩
  obtain ⟨T, hT⟩ : ∃ T : Nat → Nat → Int, ∀ k j, T k j = foldM ((lnI mc mh mw mx b k).take j) (longUp mc mh mw mx b k) := ⟨_, fun _ _ => rfl⟩
  have HL := Lib.hid hL
  have HT := Lib.hid hT
  clear hL hT
  cbv
  (repeat' (first | apply And.intro | apply BrB.mk | apply BrP.mk | intro _))
  (all_goals try (exfalso; (subst hA; subst h_c; subst h_fe; subst h_fN; subst h_fD; subst h_fi; subst h_fv; subst h_fn; subst h_fp; subst h_fl; subst h_pl; subst h_fz; subst h_fm; subst h_gL); (try simp only [std, stdBin, stdCmp, stdUna, stdIn, ci, beq_iff_eq, bne_iff_ne, beq_eq_false_iff_ne, bne_eq_false_iff_eq, decide_eq_true_eq, decide_eq_false_iff_not, Bool.not_true, Bool.not_false, Bool.not_eq_true', Bool.not_eq_false', Bool.not_not, tn0, tn1, tn2, tn3] at *); first | omega | contradiction))
  all_goals try (refine loop_at Nat 48 (fun k => [(4, .v (.int .i64 0)), (9, .v (.int .i64 (L k))), (10, .any), (11, .any), (12, .any), (13, .any), (15, .any), (48, .v (.int .i64 (c k)))]) (fun k o => o) (fun k => k ≤ mx.ls.length ∧ allTo (roomI mc mh mw mx b) k = true) (fun k => mx.ls.length - k) 0 ⟨Nat.zero_le _, rfl⟩ ?_ ?_
                 focus
                   show AS.le _ _
                   cbv
                   (repeat' (first | apply And.intro | apply BrB.mk | apply BrP.mk | intro _))
                   (all_goals (subst hA; subst h_c; subst h_fe; subst h_fN; subst h_fD; subst h_fi; subst h_fv; subst h_fn; subst h_fp; subst h_fl; subst h_pl; subst h_fz; subst h_fm; subst h_gL); all_goals (have f_sm := SM.out; have f_sb := SB.out); all_goals (try simp only [std, stdBin, stdCmp, stdUna, stdIn, ci, beq_iff_eq, bne_iff_ne, beq_eq_false_iff_ne, bne_eq_false_iff_eq, decide_eq_true_eq, decide_eq_false_iff_not, Bool.not_true, Bool.not_false, Bool.not_eq_true', Bool.not_eq_false', Bool.not_not, tn0, tn1, tn2, tn3] at *); all_goals (try omega))
                   all_goals first | exact True.intro | rfl | (rw [HL.out]; rfl)
                   done)
  all_goals try (rintro k ⟨hk, hE⟩; cbv; refine BrB.mk (fun gx => ?_) (fun gx => ?_))
  all_goals (repeat' (first | apply And.intro | apply BrB.mk | apply BrP.mk | intro _))
  all_goals try (refine loop_at Nat 104 (fun j => [(9, .v (.int .i64 (T k j))), (15, .any), (104, .v (.int .i64 (c j)))]) (fun j o => o) (fun j => j ≤ (lnI mc mh mw mx b k).length) (fun j => (lnI mc mh mw mx b k).length - j) 0 (Nat.zero_le _) ?_ ?_
                 focus
                   show AS.le _ _
                   cbv
                   (repeat' (first | apply And.intro | apply BrB.mk | apply BrP.mk | intro _))
                   (all_goals (subst hA; subst h_c; subst h_fe; subst h_fN; subst h_fD; subst h_fi; subst h_fv; subst h_fn; subst h_fp; subst h_fl; subst h_pl; subst h_fz; subst h_fm; subst h_gL); all_goals (have f_sm := SM.out; have f_sb := SB.out); all_goals (try simp only [std, stdBin, stdCmp, stdUna, stdIn, ci, beq_iff_eq, bne_iff_ne, beq_eq_false_iff_ne, bne_eq_false_iff_eq, decide_eq_true_eq, decide_eq_false_iff_not, Bool.not_true, Bool.not_false, Bool.not_eq_true', Bool.not_eq_false', Bool.not_not, tn0, tn1, tn2, tn3] at *); all_goals (try omega))
                   all_goals first | exact True.intro | rfl | (rw [HL.out, HT.out]; rfl)
                   done)
  all_goals try (intro j hj; cbv; refine BrB.mk (fun gj => ?_) (fun gj => ?_))
  all_goals (repeat' (first | apply And.intro | apply BrB.mk | apply BrP.mk | intro _))
  all_goals try first
    | (have _ : _ = true := gj; refine ⟨j + 1, ?_, ?_, ?_⟩)
    | (have _ : _ = true := gx; refine ⟨k + 1, ?_, ?_, ?_⟩)
  all_goals try (show AS.le _ _; cbv; (repeat' (first | apply And.intro | apply BrB.mk | apply BrP.mk | intro _)))
  (all_goals (subst hA; subst h_c; subst h_fe; subst h_fN; subst h_fD; subst h_fi; subst h_fv; subst h_fn; subst h_fp; subst h_fl; subst h_pl; subst h_fz; subst h_fm; subst h_gL); all_goals (have f_sm := SM.out; have f_sb := SB.out); all_goals (try simp only [std, stdBin, stdCmp, stdUna, stdIn, ci, beq_iff_eq, bne_iff_ne, beq_eq_false_iff_ne, bne_eq_false_iff_eq, decide_eq_true_eq, decide_eq_false_iff_not, Bool.not_true, Bool.not_false, Bool.not_eq_true', Bool.not_eq_false', Bool.not_not, tn0, tn1, tn2, tn3, inF, inB, longF, shpE, shpN, shpD, rowsD_at', rowsD_len, shp_len, dmVF, dmNF, dmP, lnF, prdP, shMayF, szF, Int.toNat_natCast] at *); all_goals (try omega))
  all_goals (try first | exact True.intro | exact congrArg (Value.int .i64) (Int.natCast_succ _).symm | omega)
  all_goals first
    | (have hv : longR mc mh mw mx b = 0 := long_a (by first | exact .inl (by assumption))
       first | (rw [hv]; done) | (show Value.int .i64 _ = Value.int .i64 (longR mc mh mw mx b); rw [hv]; done))
    | (have hz : (shpR mc mh mw mx).2 = 0 := (by assumption)
       obtain ⟨hm, hS⟩ := shpR_ok hz
       obtain ⟨m1, m2, m3, m4, m5⟩ := mdl_of hm
       have e0 : (((mx.ls.length + 1 : Nat) : Int) - 1).toNat = mx.ls.length := (by omega)
       have e5 : (shp mc mh mw mx mx.ls.length).getD mx.ls.length [] = shT mc mh mw mx mx.ls.length := shp_at (Nat.le_refl _)
       simp only [e0, e5, decide_eq_true_eq, decide_eq_false_iff_not] at *
       first
         | omega
         | (have hv : longR mc mh mw mx b = 0 := long_a (.inr (by omega))
            rw [hv]; done)
         | (have hv : longR mc mh mw mx b = 0 := long_b (by omega)
            rw [hv]; done)
         | (have hkn : k < mx.ls.length := (by omega)
            have e1 : ((k : Int) + 1).toNat = k + 1 := (by omega)
            have e3 : (shp mc mh mw mx mx.ls.length).getD k [] = shT mc mh mw mx k := shp_at (by omega)
            have e4 : (shp mc mh mw mx mx.ls.length).getD (k + 1) [] = shT mc mh mw mx (k + 1) := shp_at (by omega)
            have hl := lay_N (m5 k hkn)
            have y1 := shT_may hm hS k (by omega)
            have y2 := shT_may hm hS (k + 1) (by omega)
            have y3 := mayD_len y1
            have z1 := szD_in (shT mc mh mw mx k)
            have z2 := szD_in (shT mc mh mw mx (k + 1))
            have y4 := shT_three (c := mc) (h := mh) (w := mw) (x := mx) (i := k)
            have hdm := dm_room hl y1
            have hrm : roomI mc mh mw mx b k = decide (b * szD (shT mc mh mw mx k) ≤ 8192 ∧ b * szD (shT mc mh mw mx (k + 1)) ≤ 8192 ∧ wgtV (layI mx k 0) (layI mx k 1) (layI mx k 2) ((shT mc mh mw mx k).getD 0 0) ≤ 8192) := rfl
            have hln : lnI mc mh mw mx b k = lnV (layI mx k 0) (layI mx k 1) (layI mx k 2) ((shT mc mh mw mx k).getD 0 0) ((shT mc mh mw mx (k + 1)).getD 1 0) ((shT mc mh mw mx (k + 1)).getD 2 0) b := rfl
            have hl3 : (lnI mc mh mw mx b k).length ≤ 3 := lnV_len _ _ _ _ _ _ _
            unfold layI at hl hdm hrm hln y4
            simp only [e1, e3, e4, ← hln] at *
            have hb : 1 ≤ b ∧ b ≤ 8 := (by omega)
            have p1 := mulI (a := b) (b := szD (shT mc mh mw mx k)) (A := 8) (B := 8192) (by omega) (by omega)
            have p2 := mulI (a := b) (b := szD (shT mc mh mw mx (k + 1))) (A := 8) (B := 8192) (by omega) (by omega)
            first
              | omega
              | exact ⟨hl, y1, y2, y4, hb.1, hb.2⟩
              | (have hf : roomI mc mh mw mx b k = false := (by rw [hrm]; refine decide_eq_false ?_; first | omega | (have hq := hdm.1 ⟨by omega, by assumption⟩; omega))
                 have hv : longR mc mh mw mx b = 0 := long_c (allTo_false hkn hf)
                 rw [hv]; done)
              | (refine ⟨by omega, ?_⟩
                 have hn : ¬ 8192 < wgtV ((mx.at k).fld 0).z ((mx.at k).fld 1).z ((mx.at k).fld 2).z ((shT mc mh mw mx k).getD 0 0) := (fun q => by have q2 := hdm.2 q; first | omega | (obtain ⟨q3, q4⟩ := q2; simp_all))
                 have hf : roomI mc mh mw mx b k = true := (by rw [hrm]; refine decide_eq_true ?_; omega)
                 simp only [allTo, hE, hf, Bool.and_self])
              | (show _ = Value.int .i64 (T k (j + 1)); rw [HT.out k (j + 1), take_fold (by omega), ← HT.out]; rfl)
              | (show _ = Value.int .i64 (L (k + 1)); rw [HT.out, HL.out, long_step (by omega)]; done)
              | trace "X")
         | (have e : k = mx.ls.length := (by omega)
            subst e
            have hv : longR mc mh mw mx b = longUp mc mh mw mx b mx.ls.length := long_d hz ⟨by omega, by omega⟩ ⟨by omega, by omega, by omega⟩ hE
            rw [hv, HL.out]; done)
         | trace "Y")
end Go.Proofs.Ytnjipnklbdlgaaa
/- Layer 16: the counterpart of a net's check. -/
namespace Go.Proofs.Ytnjipnklbdlgaaa
open Go.RowKit
set_option maxRecDepth 1000000
set_option linter.unusedSimpArgs false
set_option linter.unusedVariables false
set_option maxHeartbeats 16000000
set_option cbv.maxSteps 10000000
/-- How far there is room. -/
def lead (g : Nat → Bool) : Nat → Nat
  | 0 => 0
  | n + 1 => if allTo g (n + 1) = true then n + 1 else lead g n
theorem allTo_le {g : Nat → Bool} : ∀ {n m : Nat}, m ≤ n → allTo g n = true → allTo g m = true
  | 0, m, h, h2 => by have : m = 0 := by omega
                      subst this; exact h2
  | n + 1, m, h, h2 => by
    by_cases e : m = n + 1
    · subst e; exact h2
    · simp only [allTo, Bool.and_eq_true] at h2
      exact allTo_le (n := n) (by omega) h2.1
theorem lead_hit {g : Nat → Bool} {k : Nat} (h : allTo g k = true) (h2 : g k = false) : ∀ n, k ≤ n → lead g n = k
  | 0, hn => by have : k = 0 := by omega
                subst this; rfl
  | n + 1, hn => by
    unfold lead
    by_cases e : k = n + 1
    · subst e; rw [if_pos h]
    · rw [if_neg (by rw [allTo_false (x := k) (by omega) h2]; simp)]
      exact lead_hit h h2 n (by omega)
theorem lead_all {g : Nat → Bool} {n : Nat} (h : allTo g n = true) : lead g n = n := by
  cases n with
  | zero => rfl
  | succ n => unfold lead; rw [if_pos h]
/-- The first layer whose sums are too long. -/
def badI (c h w : Int) (x : Dat) (b : Int) : Nat → Int
  | 0 => 0
  | k + 1 => if badI c h w x b k = 0 ∧ fitsN (prdI c h w x b k) = false then (k : Int) + 1 else badI c h w x b k
def badJ (c h w : Int) (x : Dat) (b : Int) (k j : Nat) : Int := if badI c h w x b k = 0 ∧ ((lnI c h w x b k).take j).all fitsN = false then (k : Int) + 1 else badI c h w x b k
theorem bad_in (c h w : Int) (x : Dat) (b : Int) : ∀ k, 0 ≤ badI c h w x b k ∧ badI c h w x b k ≤ k
  | 0 => by simp [badI]
  | k + 1 => by
    have := bad_in c h w x b k
    unfold badI
    split <;> omega
theorem bad_zero {c h w : Int} {x : Dat} {b : Int} : ∀ {k}, badI c h w x b k = 0 → ∀ i, i < k → fitsN (prdI c h w x b i) = true
  | 0, _, i, hi => absurd hi (Nat.not_lt_zero _)
  | k + 1, hb, i, hi => by
    unfold badI at hb
    split at hb
    · omega
    · rename_i hn
      by_cases e : i = k
      · subst e
        cases hf : fitsN (prdI c h w x b i) with
        | true => rfl
        | false => exact absurd ⟨hb, hf⟩ hn
      · exact bad_zero hb i (by omega)
theorem bad_pos {c h w : Int} {x : Dat} {b : Int} : ∀ {k}, ¬ badI c h w x b k = 0 → ∃ i, i < k ∧ badI c h w x b k = (i : Int) + 1 ∧ fitsN (prdI c h w x b i) = false ∧ ∀ j, j < i → fitsN (prdI c h w x b j) = true
  | 0, hb => absurd rfl hb
  | k + 1, hb => by
    unfold badI at hb ⊢
    split
    · rename_i hn
      exact ⟨k, by omega, rfl, hn.2, bad_zero hn.1⟩
    · rename_i hn
      rw [if_neg hn] at hb
      obtain ⟨i, h1, h2, h3, h4⟩ := bad_pos hb
      exact ⟨i, by omega, h2, h3, h4⟩
theorem badJ_zero (c h w : Int) (x : Dat) (b : Int) (k : Nat) : badJ c h w x b k 0 = badI c h w x b k := by
  unfold badJ; rw [if_neg (by simp)]
theorem take_all {l : List Int} {j : Nat} (h : j < l.length) : (l.take (j + 1)).all fitsN = ((l.take j).all fitsN && fitsN (l.getD j 0)) := by
  rw [← List.take_append_getElem h, List.all_append, List.getD_eq_getElem?_getD, List.getElem?_eq_getElem h]
  simp
theorem badJ_yes {c h w : Int} {x : Dat} {b : Int} {k j : Nat} (hj : j < (lnI c h w x b k).length) (h1 : fitsN ((lnI c h w x b k).getD j 0) = false) (h2 : badJ c h w x b k j = 0) : badJ c h w x b k (j + 1) = (k : Int) + 1 := by
  unfold badJ at h2 ⊢
  split at h2
  · omega
  · rw [if_pos ⟨h2, by rw [take_all hj, h1, Bool.and_false]⟩]
theorem badJ_no {c h w : Int} {x : Dat} {b : Int} {k j : Nat} (hj : j < (lnI c h w x b k).length) (h1 : fitsN ((lnI c h w x b k).getD j 0) = true ∨ ¬ badJ c h w x b k j = 0) : badJ c h w x b k (j + 1) = badJ c h w x b k j := by
  unfold badJ at h1 ⊢
  rw [take_all hj]
  rcases h1 with h1 | h1
  · rw [h1, Bool.and_true]
  · split at h1
    · rename_i hn
      rw [if_pos hn, if_pos ⟨hn.1, by rw [hn.2]; rfl⟩]
    · rename_i hn
      rw [if_neg (fun q => h1 q.1), if_neg hn]
theorem badJ_all {c h w : Int} {x : Dat} {b : Int} {k j : Nat} (hj : j = (lnI c h w x b k).length) (hf : (lnI c h w x b k).all fitsN = fitsN (prdI c h w x b k)) : badJ c h w x b k j = badI c h w x b (k + 1) := by
  subst hj
  unfold badJ
  rw [List.take_length, hf]
  rfl
def rlF (xa : List AV) : Int := match xa with
  | [.st [.st [.z c, .z h, .z w], .d x], .z n, .z b] => if (netR c h w x n b).2 = 0 ∨ (netR c h w x n b).2 = 3 then longUp c h w x b (lead (roomI c h w x b) x.ls.length) else 0
  | _ => 0
def threeC (ts : List Ty) (e f g : List AV → Int) : Ctr := ⟨ts, fun _ => none, fun xa => .ret (.tup [.v (.int .i64 (e xa)), .v (.int .i64 (f xa)), .v (.int .i64 (g xa))]) [], false⟩
theorem shp_err {c h w : Int} {x : Dat} (h0 : ¬ (shpR c h w x).2 = 0) : (shpR c h w x).2 = 1 ∨ (shpR c h w x).2 = 2 := by
  unfold shpR at h0 ⊢
  split
  · rename_i hm
    rw [if_pos hm] at h0
    by_cases he : ∃ i, i < x.ls.length ∧ ¬ shErr c h w x i = 0
    · obtain ⟨i, h1, h2⟩ := he
      obtain ⟨k, hk, hmin⟩ := least (fun i => i < x.ls.length ∧ ¬ shErr c h w x i = 0) i ⟨h1, h2⟩
      rw [lowE_hit hk.1 (fun j hj => by
        cases Classical.em (shErr c h w x j = 0) with
        | inl h => exact h
        | inr h => exact absurd ⟨by omega, h⟩ (hmin j hj)) hk.2]
      unfold shErr
      split
      · simp
      · split
        · simp
        · rename_i a b
          have := hk.2
          unfold shErr at this
          rw [if_neg a, if_neg b] at this
          exact absurd rfl this
    · have hz : ∀ i, i < x.ls.length → shErr c h w x i = 0 := fun i hi => by
        cases Classical.em (shErr c h w x i = 0) with
        | inl h => exact h
        | inr h => exact absurd ⟨i, hi, h⟩ he
      rw [lowE_none hz] at h0
      exact absurd rfl h0
  · simp
theorem ckrfits_ok : CtrOk Try.prog 44 (boolC [.int .i64] fitsF) := by
  obtain ⟨G, hG⟩ : ∃ G : List (FuncId × Ctr), G = [] := ⟨_, rfl⟩
  refine fn_ok (ck := true) Try.func44 rfl tt_ok (G := G) (by rw [hG]; exact trivial) mixed (by kernel_rfl) ?_
  intro xa xs h hx hp
  obtain ⟨a0, as0, x0, xs0, rfl, rfl, h0, H1⟩ := svArgs_cons h
  obtain ⟨rfl, rfl⟩ := svArgs_nil H1
  obtain ⟨n, rfl, rfl⟩ := argSV_int h0
  have sn := of_i64 (hx (.v (.int .i64 n)) (by simp))
  have SN := Lib.hid sn
  clear sn
  clear hx hp h h0 H1
  generalize hA : std = A
  subst hG
  generalize h_c : ci = c
  generalize h_fR : fitsF = fR
  cbv
  (repeat' (first | apply And.intro | apply BrB.mk | apply BrP.mk | intro _))
  (all_goals (subst hA; subst h_c; subst h_fR); all_goals (have f_sn := SN.out); all_goals (try simp only [std, stdBin, stdCmp, stdUna, stdIn, ci, beq_iff_eq, bne_iff_ne, beq_eq_false_iff_ne, bne_eq_false_iff_eq, decide_eq_true_eq, decide_eq_false_iff_not, Bool.not_true, Bool.not_false, Bool.not_eq_true', Bool.not_eq_false', Bool.not_not, tn0, tn1, tn2, tn3, fitsF] at *); all_goals (try omega))
  all_goals (have hp : (2 : Int) ^ Int.toNat 14 = 16384 := rfl)
  all_goals (try rw [hp])
  all_goals first | omega | (refine vb ?_; unfold fitsN; first | (rw [decide_eq_decide]; omega) | (rw [decide_eq_false_iff_not]; omega) | (rw [decide_eq_true_eq]; omega))
theorem one_eq {t : List Int} {n : Int} : t = [n] ↔ t.length = 1 ∧ t.getD 0 0 = n := by
  constructor
  · rintro rfl; exact ⟨rfl, rfl⟩
  · rintro ⟨h1, h2⟩
    match t, h1, h2 with
    | [a], _, h2 => simp at h2; rw [h2]
theorem allTo_at {g : Nat → Bool} {n : Nat} (h : allTo g n = true) (i : Nat) (hi : i < n) : g i = true := by
  have := allTo_le (m := i + 1) (by omega) h
  simp only [allTo, Bool.and_eq_true] at this
  exact this.2
theorem net_fit {c h w : Int} {x : Dat} {b : Int} {k : Nat} (hl : layN (layI x k 0) (layI x k 1) (layI x k 2)) (y1 : mayD (shT c h w x k) = true) (y2 : mayD (shT c h w x (k + 1)) = true) (y4 : layI x k 0 = 2 → (shT c h w x (k + 1)).length = 3) (hb : 1 ≤ b ∧ b ≤ 8) : (lnI c h w x b k).all fitsN = fitsN (prdI c h w x b k) := by
  have q1 := mayD_len y1
  have q2 := mayD_at y1 (i := 0) (by omega)
  unfold layN at hl
  unfold lnI prdI
  refine ln_fit (fun h1 => ?_) (fun h2 => ?_)
  · have := hl.1 h1; omega
  · have h3 := hl.2 h2
    have h4 := y4 h2
    have g1 := mayD_at y2 (i := 1) (by omega)
    have g2 := mayD_at y2 (i := 2) (by omega)
    have m1 := mulI (a := (shT c h w x k).getD 0 0) (b := layI x k 2) (A := 4096) (B := 5) (by omega) (by omega)
    have m2 := mulI (b := layI x k 2) (B := 5) m1 (by omega)
    have n1 := mulI (a := layI x k 1) (b := layI x k 2) (A := 8) (B := 5) (by omega) (by omega)
    have n2 := mulI (b := layI x k 2) (B := 5) n1 (by omega)
    have k1 := mulI (a := b) (b := (shT c h w x (k + 1)).getD 1 0) (A := 8) (B := 4096) (by omega) (by omega)
    have k2 := mulI (b := (shT c h w x (k + 1)).getD 2 0) (B := 4096) k1 (by omega)
    exact ⟨m2.1, n2.1, k2.1⟩
theorem rnet_ok : CtrOk Try.prog 16 (threeC [mdlTy, .int .i64, .int .i64] rlF netN netF) := by
  obtain ⟨G, hG⟩ : ∃ G : List (FuncId × Ctr), G = [(40, boolC [.int .i64, .int .i64, .int .i64] inF), (41, rowIC [layTy, .sl (.int .i64)] 3 dmP dmVF dmNF), (43, rowP [layTy, .sl (.int .i64), .sl (.int .i64), .int .i64] 3 .i64 prdP lnF), (42, intC [.sl (.int .i64)] .i64 szF), (28, boolC [.sl (.int .i64)] shMayF), (14, boolC [.sl (.int .i64), .sl (.int .i64)] eqF), (44, boolC [.int .i64] fitsF)] := ⟨_, rfl⟩
  refine fn_inl2 (ck := true) rfl [(13, shpC shpE shpN shpD)] ⟨⟨by unfold FnOk; kernel_rfl, rshapes_ok⟩, trivial⟩ [] trivial Try.func16 rfl tt_ok (G := G) (by rw [hG]; exact ⟨⟨rin10_ok, by unfold FnOk; kernel_rfl⟩, ⟨rdims_ok, by unfold FnOk; kernel_rfl⟩, ⟨rlens_ok, by unfold FnOk; kernel_rfl⟩, ⟨rsize_ok, by unfold FnOk; kernel_rfl⟩, ⟨rmay_ok, by unfold FnOk; kernel_rfl⟩, ⟨rsame_ok, by unfold FnOk; kernel_rfl⟩, ⟨ckrfits_ok, by unfold FnOk; kernel_rfl⟩, trivial⟩) mixed (by kernel_rfl) ?_
  intro xa xs h hx hp
  obtain ⟨a0, as0, x0, xs0, rfl, rfl, h0, H1⟩ := svArgs_cons h
  obtain ⟨a1, as1, x1, xs1, rfl, rfl, h1, H2⟩ := svArgs_cons H1
  obtain ⟨a2, as2, x2, xs2, rfl, rfl, h2, H3⟩ := svArgs_cons H2
  obtain ⟨rfl, rfl⟩ := svArgs_nil H3
  obtain ⟨mc, mh, mw, mx, rfl, rfl⟩ := argSV_mdl h0
  obtain ⟨n, rfl, rfl⟩ := argSV_int h1
  obtain ⟨b, rfl, rfl⟩ := argSV_int h2
  have sm : (-9223372036854775808 ≤ mc ∧ mc ≤ 9223372036854775807) ∧ (-9223372036854775808 ≤ mh ∧ mh ≤ 9223372036854775807) ∧ (-9223372036854775808 ≤ mw ∧ mw ≤ 9223372036854775807) ∧ ((ci mx.ls.length ≤ 9223372036854775807) ∧ Wt (.sl layTy) mx) := svf_mdl (hx (.agg [.v (.int .i64 mc), .v (.int .i64 mh), .v (.int .i64 mw), .imm layTy mx]) (List.mem_of_getElem? (i := 0) rfl))
  have sn := of_i64 (hx (.v (.int .i64 n)) (by simp))
  have sb := of_i64 (hx (.v (.int .i64 b)) (by simp))
  have SM := Lib.hid sm
  clear sm
  have SN := Lib.hid sn
  clear sn
  have SB := Lib.hid sb
  clear sb
  clear hx hp h h0 H1 h1 H2 h2 H3
  generalize hA : std = A
  subst hG
  generalize h_c : ci = c
  generalize h_fe : shpE = fe
  generalize h_fN : shpN = fN
  generalize h_fD : shpD = fD
  generalize h_fi : inF = fi
  generalize h_fv : dmVF = fv
  generalize h_fn : dmNF = fn
  generalize h_fp : dmP = fp
  generalize h_fl : lnF = fl
  generalize h_pl : prdP = pl
  generalize h_fz : szF = fz
  generalize h_fm : shMayF = fm
  generalize h_fs : eqF = fs
  generalize h_ff : fitsF = ff
  generalize h_gL : rlF = gL
  generalize h_gN : netN = gN
  generalize h_gE : netF = gE
  obtain ⟨L, hL⟩ : ∃ L : Nat → Int, ∀ k, L k = longUp mc mh mw mx b k := ⟨_, fun _ => rfl⟩
  obtain ⟨T, hT⟩ : ∃ T : Nat → Nat → Int, ∀ k j, T k j = foldM ((lnI mc mh mw mx b k).take j) (longUp mc mh mw mx b k) := ⟨_, fun _ _ => rfl⟩
  obtain ⟨B, hB⟩ : ∃ B : Nat → Int, ∀ k, B k = badI mc mh mw mx b k := ⟨_, fun _ => rfl⟩
  obtain ⟨Y, hY⟩ : ∃ Y : Nat → Nat → Int, ∀ k j, Y k j = badJ mc mh mw mx b k j := ⟨_, fun _ _ => rfl⟩
  have HL := Lib.hid hL
  have HT := Lib.hid hT
  have HB := Lib.hid hB
  have HY := Lib.hid hY
  clear hL hT hB hY
  cbv
  (repeat' (first | apply And.intro | apply BrB.mk | apply BrP.mk | intro _))
  (all_goals try (exfalso; (subst hA; subst h_c; subst h_fe; subst h_fN; subst h_fD; subst h_fi; subst h_fv; subst h_fn; subst h_fp; subst h_fl; subst h_pl; subst h_fz; subst h_fm; subst h_fs; subst h_ff; subst h_gL; subst h_gN; subst h_gE); (try simp only [std, stdBin, stdCmp, stdUna, stdIn, ci, beq_iff_eq, bne_iff_ne, beq_eq_false_iff_ne, bne_eq_false_iff_eq, decide_eq_true_eq, decide_eq_false_iff_not, Bool.not_true, Bool.not_false, Bool.not_eq_true', Bool.not_eq_false', Bool.not_not, tn0, tn1, tn2, tn3] at *); first | omega | contradiction))
  all_goals try (refine loop_at Nat 56 (fun k => [(6, .v (.int .i64 0)), (7, .v (.int .i64 0)), (8, .v (.int .i64 0)), (12, .v (.int .i64 (L k))), (13, .v (.int .i64 (B k))), (14, .any), (15, .any), (16, .any), (17, .any), (18, .any), (19, .any), (21, .any), (56, .v (.int .i64 (c k)))]) (fun k o => o) (fun k => k ≤ mx.ls.length ∧ allTo (roomI mc mh mw mx b) k = true) (fun k => mx.ls.length - k) 0 ⟨Nat.zero_le _, rfl⟩ ?_ ?_
                 focus
                   show AS.le _ _
                   cbv
                   (repeat' (first | apply And.intro | apply BrB.mk | apply BrP.mk | intro _))
                   (all_goals (subst hA; subst h_c; subst h_fe; subst h_fN; subst h_fD; subst h_fi; subst h_fv; subst h_fn; subst h_fp; subst h_fl; subst h_pl; subst h_fz; subst h_fm; subst h_fs; subst h_ff; subst h_gL; subst h_gN; subst h_gE); all_goals (have f_sm := SM.out; have f_sn := SN.out; have f_sb := SB.out); all_goals (try simp only [std, stdBin, stdCmp, stdUna, stdIn, ci, beq_iff_eq, bne_iff_ne, beq_eq_false_iff_ne, bne_eq_false_iff_eq, decide_eq_true_eq, decide_eq_false_iff_not, Bool.not_true, Bool.not_false, Bool.not_eq_true', Bool.not_eq_false', Bool.not_not, tn0, tn1, tn2, tn3] at *); all_goals (try omega))
                   all_goals first | exact True.intro | rfl | (rw [HL.out]; rfl) | (rw [HB.out]; rfl)
                   done)
  all_goals try (rintro k ⟨hk, hE⟩; cbv; refine BrB.mk (fun gx => ?_) (fun gx => ?_))
  all_goals (repeat' (first | apply And.intro | apply BrB.mk | apply BrP.mk | intro _))
  all_goals try (refine loop_at Nat 110 (fun j => [(12, .v (.int .i64 (T k j))), (13, .v (.int .i64 (Y k j))), (21, .any), (110, .v (.int .i64 (c j)))]) (fun j o => o) (fun j => j ≤ (lnI mc mh mw mx b k).length) (fun j => (lnI mc mh mw mx b k).length - j) 0 (Nat.zero_le _) ?_ ?_
                 focus
                   show AS.le _ _
                   cbv
                   (repeat' (first | apply And.intro | apply BrB.mk | apply BrP.mk | intro _))
                   (all_goals (subst hA; subst h_c; subst h_fe; subst h_fN; subst h_fD; subst h_fi; subst h_fv; subst h_fn; subst h_fp; subst h_fl; subst h_pl; subst h_fz; subst h_fm; subst h_fs; subst h_ff; subst h_gL; subst h_gN; subst h_gE); all_goals (have f_sm := SM.out; have f_sn := SN.out; have f_sb := SB.out); all_goals (try simp only [std, stdBin, stdCmp, stdUna, stdIn, ci, beq_iff_eq, bne_iff_ne, beq_eq_false_iff_ne, bne_eq_false_iff_eq, decide_eq_true_eq, decide_eq_false_iff_not, Bool.not_true, Bool.not_false, Bool.not_eq_true', Bool.not_eq_false', Bool.not_not, tn0, tn1, tn2, tn3] at *); all_goals (try omega))
                   all_goals first | exact True.intro | rfl | (rw [HL.out, HT.out]; rfl) | (rw [HB.out, HY.out, badJ_zero]; done)
                   done)
  all_goals try (intro j hj; cbv; refine BrB.mk (fun gj => ?_) (fun gj => ?_))
  all_goals (repeat' (first | apply And.intro | apply BrB.mk | apply BrP.mk | intro _))
  all_goals try first
    | (have _ : _ = true := gj; refine ⟨j + 1, ?_, ?_, ?_⟩)
    | (have _ : _ = true := gx; refine ⟨k + 1, ?_, ?_, ?_⟩)
  all_goals try (show AS.le _ _; cbv; (repeat' (first | apply And.intro | apply BrB.mk | apply BrP.mk | intro _)))
  (all_goals (subst hA; subst h_c; subst h_fe; subst h_fN; subst h_fD; subst h_fi; subst h_fv; subst h_fn; subst h_fp; subst h_fl; subst h_pl; subst h_fz; subst h_fm; subst h_fs; subst h_ff; subst h_gL; subst h_gN; subst h_gE); all_goals (have f_sm := SM.out; have f_sn := SN.out; have f_sb := SB.out); all_goals (try simp only [std, stdBin, stdCmp, stdUna, stdIn, ci, beq_iff_eq, bne_iff_ne, beq_eq_false_iff_ne, bne_eq_false_iff_eq, decide_eq_true_eq, decide_eq_false_iff_not, Bool.not_true, Bool.not_false, Bool.not_eq_true', Bool.not_eq_false', Bool.not_not, tn0, tn1, tn2, tn3, inF, inB, netN, netF, rlF, shpE, shpN, shpD, rowsD_at', rowsD_len, shp_len, dmVF, dmNF, dmP, lnF, prdP, shMayF, szF, eqF, fitsF, Int.toNat_natCast] at *); all_goals (try omega))
  all_goals (try first | exact True.intro | exact congrArg (Value.int .i64) (Int.natCast_succ _).symm | omega)
  all_goals first
    | (have hz : ¬ (shpR mc mh mw mx).2 = 0 := (by assumption)
       have hs := shp_err hz
       have hv := net_a (n := n) (b := b) hz
       first | (rw [hv]; done) | (rw [hv, if_neg (by omega)]; done) | trace "A")
    | (have hz : (shpR mc mh mw mx).2 = 0 := (by assumption)
       obtain ⟨hm, hS⟩ := shpR_ok hz
       obtain ⟨m1, m2, m3, m4, m5⟩ := mdl_of hm
       have e0 : (((mx.ls.length + 1 : Nat) : Int) - 1).toNat = mx.ls.length := (by omega)
       have e5 : (shp mc mh mw mx mx.ls.length).getD mx.ls.length [] = shT mc mh mw mx mx.ls.length := shp_at (Nat.le_refl _)
       simp only [e0, e5, decide_eq_true_eq, decide_eq_false_iff_not] at *
       first
         | omega
         | (have hv : netR mc mh mw mx n b = (0, 1) := net_b hz (by omega)
            first | (rw [hv]; done) | (simp [hv]; done) | trace "B")
         | (have hg : (2 ≤ n ∧ n ≤ 10) ∧ 1 ≤ b ∧ b ≤ 8 := ⟨⟨by omega, by omega⟩, by omega, by omega⟩
            first
              | (have hne : ¬ shT mc mh mw mx mx.ls.length = [n] := (by assumption)
                 have hc : clsB (shT mc mh mw mx mx.ls.length) n = false := decide_eq_false (fun q => hne (one_eq.2 q))
                 have hv := net_c hz hg hc
                 first | (rw [hv]; done) | (simp [hv]; done) | trace "D")
              | (have heq : shT mc mh mw mx mx.ls.length = [n] := (by assumption)
                 have hc : clsB (shT mc mh mw mx mx.ls.length) n = true := decide_eq_true (one_eq.1 heq)
                 have hd := net_d hz hg hc
                 first
                   | (have hkn : k < mx.ls.length := (by omega)
                      have e1 : ((k : Int) + 1).toNat = k + 1 := (by omega)
                      have e3 : (shp mc mh mw mx mx.ls.length).getD k [] = shT mc mh mw mx k := shp_at (by omega)
                      have e4 : (shp mc mh mw mx mx.ls.length).getD (k + 1) [] = shT mc mh mw mx (k + 1) := shp_at (by omega)
                      have hl := lay_N (m5 k hkn)
                      have y1 := shT_may hm hS k (by omega)
                      have y2 := shT_may hm hS (k + 1) (by omega)
                      have y3 := mayD_len y1
                      have z1 := szD_in (shT mc mh mw mx k)
                      have z2 := szD_in (shT mc mh mw mx (k + 1))
                      have y4 := shT_three (c := mc) (h := mh) (w := mw) (x := mx) (i := k)
                      have hdm := dm_room hl y1
                      have hrm : roomI mc mh mw mx b k = decide (b * szD (shT mc mh mw mx k) ≤ 8192 ∧ b * szD (shT mc mh mw mx (k + 1)) ≤ 8192 ∧ wgtV (layI mx k 0) (layI mx k 1) (layI mx k 2) ((shT mc mh mw mx k).getD 0 0) ≤ 8192) := rfl
                      have hln : lnI mc mh mw mx b k = lnV (layI mx k 0) (layI mx k 1) (layI mx k 2) ((shT mc mh mw mx k).getD 0 0) ((shT mc mh mw mx (k + 1)).getD 1 0) ((shT mc mh mw mx (k + 1)).getD 2 0) b := rfl
                      have hl3 : (lnI mc mh mw mx b k).length ≤ 3 := lnV_len _ _ _ _ _ _ _
                      have hfit : (lnI mc mh mw mx b k).all fitsN = fitsN (prdI mc mh mw mx b k) := net_fit hl y1 y2 y4 hg.2
                      unfold layI at hl hdm hrm hln y4
                      simp only [e1, e3, e4, ← hln] at *
                      have p1 := mulI (a := b) (b := szD (shT mc mh mw mx k)) (A := 8) (B := 8192) (by omega) (by omega)
                      have p2 := mulI (a := b) (b := szD (shT mc mh mw mx (k + 1))) (A := 8) (B := 8192) (by omega) (by omega)
                      have bi := bad_in mc mh mw mx b k
                      have hB := HB.out k
                      first
                        | omega
                        | exact ⟨hl, y1, y2, y4, hg.2.1, hg.2.2⟩
                        | (have hf : roomI mc mh mw mx b k = false := (by rw [hrm]; refine decide_eq_false ?_; first | omega | (have hq := hdm.1 ⟨by omega, by assumption⟩; omega))
                           have hlead := lead_hit hE hf mx.ls.length (by omega)
                           first
                             | (have hb0 : badI mc mh mw mx b k = 0 := (by omega)
                                have hE2 : ∀ i, i < k → netE mc mh mw mx b i = 0 := fun i hi => netE_zero (allTo_at hE i hi) (bad_zero hb0 i hi)
                                have he : netE mc mh mw mx b k = 1 := netE_one hf
                                have hv : netR mc mh mw mx n b = ((k : Int) + 1, 1) := by rw [hd, lowE_hit hkn hE2 (by rw [he]; decide), he]
                                first | (rw [hv]; done) | (simp [hv]; done) | trace "E")
                             | (have hb0 : ¬ badI mc mh mw mx b k = 0 := (by omega)
                                obtain ⟨i, i1, i2, i3, i4⟩ := bad_pos hb0
                                have hE2 : ∀ q, q < i → netE mc mh mw mx b q = 0 := fun q hq => netE_zero (allTo_at hE q (by omega)) (i4 q hq)
                                have he : netE mc mh mw mx b i = 3 := netE_three (allTo_at hE i i1) i3
                                have hv : netR mc mh mw mx n b = ((i : Int) + 1, 3) := by rw [hd, lowE_hit (by omega) hE2 (by rw [he]; decide), he]
                                first | (rw [hv]; done) | (rw [hv, hB, i2]; done) | (simp [hv, hlead, HL.out]; done) | trace "F"))
                        | (refine ⟨by omega, ?_⟩
                           have hn : ¬ 8192 < wgtV ((mx.at k).fld 0).z ((mx.at k).fld 1).z ((mx.at k).fld 2).z ((shT mc mh mw mx k).getD 0 0) := (fun q => by have q2 := hdm.2 q; first | omega | (obtain ⟨q3, q4⟩ := q2; simp_all))
                           have hf : roomI mc mh mw mx b k = true := (by rw [hrm]; refine decide_eq_true ?_; omega)
                           simp only [allTo, hE, hf, Bool.and_self])
                        | (show _ = Value.int .i64 (T k (j + 1)); rw [HT.out k (j + 1), take_fold (by omega), ← HT.out]; rfl)
                        | (show _ = Value.int .i64 (L (k + 1)); rw [HT.out, HL.out, long_step (by omega)]; done)
                        | (have hy := HY.out k j
                           have hy1 := HY.out k (j + 1)
                           first
                             | (show _ = Value.int .i64 (Y k (j + 1)); rw [hy1, badJ_yes (by omega) (by assumption) (by omega)]; done)
                             | (show _ = Value.int .i64 (Y k (j + 1)); rw [hy1, badJ_no (by omega) (by first | exact .inl (by assumption) | exact .inr (by omega)), hy]; done)
                             | (show _ = Value.int .i64 (B (k + 1)); rw [hy, HB.out, badJ_all (by omega) hfit]; done))
                        | trace "X")
                   | (have e : k = mx.ls.length := (by omega)
                      subst e
                      have hlead := lead_all hE
                      have hB := HB.out mx.ls.length
                      have bi := bad_in mc mh mw mx b mx.ls.length
                      first
                        | (have hb0 : badI mc mh mw mx b mx.ls.length = 0 := (by omega)
                           have hE2 : ∀ i, i < mx.ls.length → netE mc mh mw mx b i = 0 := fun i hi => netE_zero (allTo_at hE i hi) (bad_zero hb0 i hi)
                           have hv : netR mc mh mw mx n b = (0, 0) := by rw [hd, lowE_none hE2]
                           first | (rw [hv]; done) | (simp [hv, hlead, HL.out]; done) | trace "G")
                        | (have hb0 : ¬ badI mc mh mw mx b mx.ls.length = 0 := (by omega)
                           obtain ⟨i, i1, i2, i3, i4⟩ := bad_pos hb0
                           have hE2 : ∀ q, q < i → netE mc mh mw mx b q = 0 := fun q hq => netE_zero (allTo_at hE q (by omega)) (i4 q hq)
                           have he : netE mc mh mw mx b i = 3 := netE_three (allTo_at hE i i1) i3
                           have hv : netR mc mh mw mx n b = ((i : Int) + 1, 3) := by rw [hd, lowE_hit (by omega) hE2 (by rw [he]; decide), he]
                           first | (rw [hv]; done) | (rw [hv, hB, i2]; done) | (simp [hv, hlead, HL.out]; done) | trace "H"))
                   | trace "I")
              | trace "J")
         | trace "C")
end Go.Proofs.Ytnjipnklbdlgaaa
