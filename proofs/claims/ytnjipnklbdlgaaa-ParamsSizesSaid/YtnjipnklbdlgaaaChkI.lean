/- Layer 16: the counterparts: what a layer gives, what each layer gives. -/
import Derived.Test.YtnjipnklbdlgaaaChkG
namespace Go.Proofs.Ytnjipnklbdlgaaa
open Go.RowKit
set_option maxRecDepth 1000000
set_option linter.unusedSimpArgs false
set_option linter.unusedVariables false
set_option maxHeartbeats 16000000
set_option cbv.maxSteps 10000000
theorem rout10_ok : CtrOk Try.prog 75 (intC [.int .i64, .int .i64, .int .i64, .int .i64] .i64 outF) := by
  obtain ⟨G, hG⟩ : ∃ G : List (FuncId × Ctr), G = [] := ⟨_, rfl⟩
  refine fn_ok (ck := true) Try.func75 rfl tt_ok (G := G) (by rw [hG]; exact trivial) mixed (by kernel_rfl) ?_
  intro xa xs h hx hp
  obtain ⟨a0, as0, x0, xs0, rfl, rfl, h0, H1⟩ := svArgs_cons h
  obtain ⟨a1, as1, x1, xs1, rfl, rfl, h1, H2⟩ := svArgs_cons H1
  obtain ⟨a2, as2, x2, xs2, rfl, rfl, h2, H3⟩ := svArgs_cons H2
  obtain ⟨a3, as3, x3, xs3, rfl, rfl, h3, H4⟩ := svArgs_cons H3
  obtain ⟨rfl, rfl⟩ := svArgs_nil H4
  obtain ⟨n, rfl, rfl⟩ := argSV_int h0
  obtain ⟨k, rfl, rfl⟩ := argSV_int h1
  obtain ⟨s, rfl, rfl⟩ := argSV_int h2
  obtain ⟨p, rfl, rfl⟩ := argSV_int h3
  have sn := of_i64 (hx (.v (.int .i64 n)) (by simp))
  have sk := of_i64 (hx (.v (.int .i64 k)) (by simp))
  have ss := of_i64 (hx (.v (.int .i64 s)) (by simp))
  have sp := of_i64 (hx (.v (.int .i64 p)) (by simp))
  have SN := Lib.hid sn
  clear sn
  have SK := Lib.hid sk
  clear sk
  have SS := Lib.hid ss
  clear ss
  have SP := Lib.hid sp
  clear sp
  clear hx hp h h0 H1 h1 H2 h2 H3 h3 H4
  generalize hA : std = A
  subst hG
  generalize h_c : ci = c
  generalize h_fR : outF = fR
  cbv
  (repeat' (first | apply And.intro | apply BrB.mk | apply BrP.mk | intro _))
  (all_goals (subst hA; subst h_c; subst h_fR); all_goals (have f_sn := SN.out; have f_sk := SK.out; have f_ss := SS.out; have f_sp := SP.out); all_goals (try simp only [std, stdBin, stdCmp, stdUna, stdIn, ci, beq_iff_eq, bne_iff_ne, beq_eq_false_iff_ne, bne_eq_false_iff_eq, decide_eq_true_eq, decide_eq_false_iff_not, Bool.not_true, Bool.not_false, Bool.not_eq_true', Bool.not_eq_false', Bool.not_not, tn0, tn1, tn2, tn3, outF] at *); all_goals (try omega))
  all_goals (try (show Value.int .i64 _ = Value.int .i64 (outV n k s p); refine congrArg _ ?_; unfold outV; first | (rw [if_neg (by omega)]) | (rw [if_pos (by omega)])))
  all_goals (have q := tdiv_in (a := n + 2 * p - k) (b := s) (by omega) (by omega); rw [w64 (by omega) (by omega)])
  all_goals first | omega | rfl | trace_state
def plAF (xa : List AV) : Int := match xa with
  | [.z h, .z w, .z k, .z s, .z p] => outV h k s p
  | _ => 0
def plBF (xa : List AV) : Int := match xa with
  | [.z h, .z w, .z k, .z s, .z p] => outV w k s p
  | _ => 0
theorem rplane_ok : CtrOk Try.prog 63 (twoC [.int .i64, .int .i64, .int .i64, .int .i64, .int .i64] plAF plBF) := by
  obtain ⟨G, hG⟩ : ∃ G : List (FuncId × Ctr), G = [(75, intC [.int .i64, .int .i64, .int .i64, .int .i64] .i64 outF)] := ⟨_, rfl⟩
  refine fn_ok (ck := true) Try.func63 rfl tt_ok (G := G) (by rw [hG]; exact ⟨⟨rout10_ok, by unfold FnOk; kernel_rfl⟩, trivial⟩) mixed (by kernel_rfl) ?_
  intro xa xs h hx hp
  obtain ⟨a0, as0, x0, xs0, rfl, rfl, h0, H1⟩ := svArgs_cons h
  obtain ⟨a1, as1, x1, xs1, rfl, rfl, h1, H2⟩ := svArgs_cons H1
  obtain ⟨a2, as2, x2, xs2, rfl, rfl, h2, H3⟩ := svArgs_cons H2
  obtain ⟨a3, as3, x3, xs3, rfl, rfl, h3, H4⟩ := svArgs_cons H3
  obtain ⟨a4, as4, x4, xs4, rfl, rfl, h4, H5⟩ := svArgs_cons H4
  obtain ⟨rfl, rfl⟩ := svArgs_nil H5
  obtain ⟨u, rfl, rfl⟩ := argSV_int h0
  obtain ⟨w, rfl, rfl⟩ := argSV_int h1
  obtain ⟨k, rfl, rfl⟩ := argSV_int h2
  obtain ⟨s, rfl, rfl⟩ := argSV_int h3
  obtain ⟨p, rfl, rfl⟩ := argSV_int h4
  have su := of_i64 (hx (.v (.int .i64 u)) (by simp))
  have sw := of_i64 (hx (.v (.int .i64 w)) (by simp))
  have sk := of_i64 (hx (.v (.int .i64 k)) (by simp))
  have ss := of_i64 (hx (.v (.int .i64 s)) (by simp))
  have sp := of_i64 (hx (.v (.int .i64 p)) (by simp))
  have SU := Lib.hid su
  clear su
  have SW := Lib.hid sw
  clear sw
  have SK := Lib.hid sk
  clear sk
  have SS := Lib.hid ss
  clear ss
  have SP := Lib.hid sp
  clear sp
  clear hx hp h h0 H1 h1 H2 h2 H3 h3 H4 h4 H5
  generalize hA : std = A
  subst hG
  generalize h_c : ci = c
  generalize h_fo : outF = fo
  generalize h_fA : plAF = fA
  generalize h_fB : plBF = fB
  cbv
  (repeat' (first | apply And.intro | apply BrB.mk | apply BrP.mk | intro _))
  (all_goals (subst hA; subst h_c; subst h_fo; subst h_fA; subst h_fB); all_goals (have f_su := SU.out; have f_sw := SW.out; have f_sk := SK.out; have f_ss := SS.out; have f_sp := SP.out); all_goals (try simp only [std, stdBin, stdCmp, stdUna, stdIn, ci, beq_iff_eq, bne_iff_ne, beq_eq_false_iff_ne, bne_eq_false_iff_eq, decide_eq_true_eq, decide_eq_false_iff_not, Bool.not_true, Bool.not_false, Bool.not_eq_true', Bool.not_eq_false', Bool.not_not, tn0, tn1, tn2, tn3, outF, plAF, plBF] at *); all_goals (try omega))
  all_goals first | rfl | trace_state
def rmkNilF (xa : List AV) : Bool := match xa with
  | [.st [.z k, .z o, .z w, .z s, .z p, .z f, .b z], .l t, .d d] => mkNil k t
  | _ => false
def rmkVF (xa : List AV) : List Int := match xa with
  | [.st [.z k, .z o, .z w, .z s, .z p, .z f, .b z], .l t, .d d] => mkV k o w s p t
  | _ => []
def rmkOkF (xa : List AV) : Bool := match xa with
  | [.st [.z k, .z o, .z w, .z s, .z p, .z f, .b z], .l t, .d d] => mkOk k w s p t (rowAt d f.toNat)
  | _ => false
def rmkP (xa : List AV) : Prop := match xa with
  | [.st [.z k, .z o, .z w, .z s, .z p, .z f, .b z], .l t, .d d] => mayD t = true ∧ ((k = 3 ∨ k = 4) → p = 0) ∧ d.ls.length ≤ 13 ∧ (k = 7 → 0 ≤ f ∧ f < d.ls.length)
  | _ => False
def rmkC (tI : TypeId) (p : List AV → Prop) (nl : List AV → Bool) (v : List AV → List Int) (ok : List AV → Bool) : Ctr :=
  ⟨[layTy, .sl (.int .i64), .sl (.sl (.int .i64))], fun xa => some (p xa), fun xa => .ite (nl xa = true) (.ret (.tup [.v (.slice none 0 0), .v (.bool false)]) []) (.ret (.tup [.hdl 0, .v (.bool (ok xa))]) [(0, .irow tI .i64 (v xa))]), false⟩
theorem prod_take {t : List Int} (h : mayD t = true) (x : Nat) : 1 ≤ prodFrom 1 (t.take x) ∧ prodFrom 1 (t.take x) ≤ 8192 := by
  obtain ⟨_, h2, h3⟩ := (mayD_iff t).1 h
  have h4 := prodFrom_pos 1 (t.take x) (by decide) (fun y hy => h2 y (List.mem_of_mem_take hy))
  have h5 := prodFrom_pos (prodFrom 1 (t.take x)) (t.drop x) h4 (fun y hy => h2 y (List.mem_of_mem_drop hy))
  have h6 : prodFrom (prodFrom 1 (t.take x)) (t.drop x) = prodFrom 1 t := by
    unfold prodFrom
    rw [← List.foldl_append, List.take_append_drop]
  omega
theorem prod_succ {t : List Int} {x : Nat} (h : x < t.length) : prodFrom 1 (t.take (x + 1)) = prodFrom 1 (t.take x) * t.getD x 0 := by
  unfold prodFrom
  rw [← List.take_append_getElem h, List.foldl_append, List.getD_eq_getElem?_getD, List.getElem?_eq_getElem h]
  rfl
theorem prod_all {t : List Int} (h : mayD t = true) {x : Nat} (hx : x = t.length) : prodFrom 1 (t.take x) = szD t := by
  subst hx
  rw [List.take_length]
  unfold szD
  rw [if_pos h]
theorem rafter_ok : CtrOk Try.prog 34 (rmkC 3 rmkP rmkNilF rmkVF rmkOkF) := by
  obtain ⟨G, hG⟩ : ∃ G : List (FuncId × Ctr), G = [(63, twoC [.int .i64, .int .i64, .int .i64, .int .i64, .int .i64] plAF plBF), (14, boolC [.sl (.int .i64), .sl (.int .i64)] eqF)] := ⟨_, rfl⟩
  refine fn_ok (ck := true) Try.func34 rfl tt_ok (G := G) (by rw [hG]; exact ⟨⟨rplane_ok, by unfold FnOk; kernel_rfl⟩, ⟨rsame_ok, by unfold FnOk; kernel_rfl⟩, trivial⟩) mixed (by kernel_rfl) ?_
  intro xa xs h hx hp
  obtain ⟨a0, as0, x0, xs0, rfl, rfl, h0, H1⟩ := svArgs_cons h
  obtain ⟨a1, as1, x1, xs1, rfl, rfl, h1, H2⟩ := svArgs_cons H1
  obtain ⟨a2, as2, x2, xs2, rfl, rfl, h2, H3⟩ := svArgs_cons H2
  obtain ⟨rfl, rfl⟩ := svArgs_nil H3
  obtain ⟨lk, lo, lw, ls, lp, lf, lz, rfl, rfl⟩ := argSV_lay h0
  obtain ⟨t, rfl, rfl⟩ := argSV_ints h1
  obtain ⟨d, rfl, rfl⟩ := argSV_rr h2
  have sl : (-9223372036854775808 ≤ lk ∧ lk ≤ 9223372036854775807) ∧ (-9223372036854775808 ≤ lo ∧ lo ≤ 9223372036854775807) ∧ (-9223372036854775808 ≤ lw ∧ lw ≤ 9223372036854775807) ∧ (-9223372036854775808 ≤ ls ∧ ls ≤ 9223372036854775807) ∧ (-9223372036854775808 ≤ lp ∧ lp ≤ 9223372036854775807) ∧ (-9223372036854775808 ≤ lf ∧ lf ≤ 9223372036854775807) := svf_lay (hx (.agg [.v (.int .i64 lk), .v (.int .i64 lo), .v (.int .i64 lw), .v (.int .i64 ls), .v (.int .i64 lp), .v (.int .i64 lf), .v (.bool lz)]) (List.mem_of_getElem? (i := 0) rfl))
  have st : Fits .i64 t ∧ ci t.length ≤ 9223372036854775807 := svf_ints (hx (.iimm .i64 t) (by simp))
  have sd : ci d.ls.length ≤ 9223372036854775807 ∧ Wt (.sl (.sl (.int .i64))) d := ⟨wtl_len (hx (.imm (.sl (.int .i64)) d) (List.mem_of_getElem? (i := 2) rfl)), hx (.imm (.sl (.int .i64)) d) (List.mem_of_getElem? (i := 2) rfl)⟩
  have SL := Lib.hid sl
  clear sl
  have ST := Lib.hid st
  clear st
  have SD := Lib.hid sd
  clear sd
  have HP := Lib.hid (hp _ rfl)
  clear hx hp h h0 H1 h1 H2 h2 H3
  generalize hA : std = A
  subst hG
  generalize h_c : ci = c
  generalize h_fp : rmkP = fp
  generalize h_fn : rmkNilF = fn
  generalize h_fv : rmkVF = fv
  generalize h_fk : rmkOkF = fk
  generalize h_fA : plAF = fA
  generalize h_fB : plBF = fB
  generalize h_fe : eqF = fe
  obtain ⟨N, hN⟩ : ∃ N : Nat → Int, ∀ x, N x = prodFrom 1 (t.take x) := ⟨_, fun _ => rfl⟩
  have HN := Lib.hid hN
  clear hN
  cbv
  (repeat' (first | apply And.intro | apply BrB.mk | apply BrP.mk | intro _))
  all_goals try (refine loop_at Nat 69 (fun x => [(11, .v (.int .i64 (N x))), (13, .any), (69, .v (.int .i64 (c x)))]) (fun _ o => o) (fun x => x ≤ t.length) (fun x => t.length - x) 0 (Nat.zero_le _) ?_ ?_
                 focus
                   show AS.le _ _
                   cbv
                   (repeat' (first | apply And.intro | apply BrB.mk | apply BrP.mk | intro _))
                   (all_goals (subst hA; subst h_c; subst h_fp; subst h_fn; subst h_fv; subst h_fk; subst h_fA; subst h_fB; subst h_fe); all_goals (have f_sl := SL.out; have f_st := ST.out; have f_sd := SD.out; have f_hp := HP.out); all_goals (try simp only [std, stdBin, stdCmp, stdUna, stdIn, ci, beq_iff_eq, bne_iff_ne, beq_eq_false_iff_ne, bne_eq_false_iff_eq, decide_eq_true_eq, decide_eq_false_iff_not, Bool.not_true, Bool.not_false, Bool.not_eq_true', Bool.not_eq_false', Bool.not_not, tn0, tn1, tn2, tn3, eqF] at *); all_goals (try omega))
                   all_goals first | exact True.intro | rfl | (rw [HN.out]; rfl)
                   done)
  all_goals try (intro x hx; cbv; refine BrB.mk (fun gx => ?_) (fun gx => ?_))
  all_goals (repeat' (first | apply And.intro | apply BrB.mk | apply BrP.mk | intro _))
  all_goals try (refine ⟨x + 1, ?_, ?_, ?_⟩)
  all_goals try (show AS.le _ _; cbv; (repeat' (first | apply And.intro | apply BrB.mk | apply BrP.mk | intro _)))
  (all_goals (subst hA; subst h_c; subst h_fp; subst h_fn; subst h_fv; subst h_fk; subst h_fA; subst h_fB; subst h_fe); all_goals (have f_sl := SL.out; have f_st := ST.out; have f_sd := SD.out; have f_hp := HP.out); all_goals (try simp only [std, stdBin, stdCmp, stdUna, stdIn, ci, beq_iff_eq, bne_iff_ne, beq_eq_false_iff_ne, bne_eq_false_iff_eq, decide_eq_true_eq, decide_eq_false_iff_not, Bool.not_true, Bool.not_false, Bool.not_eq_true', Bool.not_eq_false', Bool.not_not, tn0, tn1, tn2, tn3, rmkNilF, rmkVF, rmkOkF, rmkP, plAF, plBF, eqF, Int.toNat_natCast] at *); all_goals (try omega))
  all_goals (obtain ⟨q1, q2, q3, q4⟩ := f_hp)
  all_goals (have ql := mayD_len q1)
  all_goals (try simp only [mkNil, mkV, mkOk, decide_eq_true_eq] at *)
  all_goals (have rr : ∀ i, (d.at i).ints = rowAt d i := fun _ => rfl)
  all_goals (try simp only [rr] at *)
  all_goals first
    | omega
    | exact True.intro
    | (have p0 := q2 (by omega); subst p0; simp_all; done)
    | (simp_all; done)
    | (refine vb ?_; rw [Bool.eq_iff_iff]; simp_all; done)
    | (refine vb ?_; rw [Bool.eq_iff_iff]; simp_all; omega)
    | (have p0 := q2 (by omega); subst p0; refine vb ?_; rw [Bool.eq_iff_iff]; simp_all; done)
    | (have p0 := q2 (by omega); subst p0; refine vb ?_; rw [Bool.eq_iff_iff]; simp_all; omega)
    | (have a1 := prod_take q1 x; have a2 := prod_take q1 (x + 1); have a3 := prod_succ (t := t) (x := x) (by omega); have a4 := HN.out x; have a5 := HN.out (x + 1); first | (rw [a4, ← a3]; omega) | (rw [a4, ← a3, a5]; done) | trace_state)
    | (have a6 := prod_all q1 (x := x) (by omega); have a4 := HN.out x; simp_all; done)
    | trace_state
end Go.Proofs.Ytnjipnklbdlgaaa
