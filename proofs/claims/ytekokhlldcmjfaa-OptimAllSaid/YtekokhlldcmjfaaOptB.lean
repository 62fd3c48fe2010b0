/- Layer 21: what moves weights, biases. -/
import Derived.Test.YtekokhlldcmjfaaOptA
namespace Go.Proofs.Ytekokhlldcmjfaa
open Go.RowKit
set_option maxRecDepth 1000000
set_option linter.unusedSimpArgs false
set_option linter.unusedVariables false
set_option maxHeartbeats 16000000
set_option cbv.maxSteps 10000000
abbrev hyTy : Ty := .st [.int .i64, .int .i64, .int .i64, .int .i64, .int .i64, .int .i64]
theorem argSV_hy {a : AV} {x : SV} (h : argSV hyTy a = some x) : ∃ (v_Ba : Int) (v_Wi : Int) (v_Ra : Int) (v_Mo : Int) (v_De : Int) (v_Ev : Int), a = .st [.z v_Ba, .z v_Wi, .z v_Ra, .z v_Mo, .z v_De, .z v_Ev] ∧ x = .agg [.v (.int .i64 v_Ba), .v (.int .i64 v_Wi), .v (.int .i64 v_Ra), .v (.int .i64 v_Mo), .v (.int .i64 v_De), .v (.int .i64 v_Ev)] := by
  obtain ⟨as0, l0, rfl, rfl, h0⟩ := argSV_st h
  obtain ⟨a1, as1, x1, m1, rfl, rfl, p1, h1⟩ := svAVs_cons h0
  obtain ⟨v_Ba, rfl, rfl⟩ := svAV_int p1
  obtain ⟨a2, as2, x2, m2, rfl, rfl, p2, h2⟩ := svAVs_cons h1
  obtain ⟨v_Wi, rfl, rfl⟩ := svAV_int p2
  obtain ⟨a3, as3, x3, m3, rfl, rfl, p3, h3⟩ := svAVs_cons h2
  obtain ⟨v_Ra, rfl, rfl⟩ := svAV_int p3
  obtain ⟨a4, as4, x4, m4, rfl, rfl, p4, h4⟩ := svAVs_cons h3
  obtain ⟨v_Mo, rfl, rfl⟩ := svAV_int p4
  obtain ⟨a5, as5, x5, m5, rfl, rfl, p5, h5⟩ := svAVs_cons h4
  obtain ⟨v_De, rfl, rfl⟩ := svAV_int p5
  obtain ⟨a6, as6, x6, m6, rfl, rfl, p6, h6⟩ := svAVs_cons h5
  obtain ⟨v_Ev, rfl, rfl⟩ := svAV_int p6
  obtain ⟨rfl, rfl⟩ := svAVs_nil h6
  exact ⟨v_Ba, v_Wi, v_Ra, v_Mo, v_De, v_Ev, rfl, rfl⟩
theorem svf_hy {v_Ba : Int} {v_Wi : Int} {v_Ra : Int} {v_Mo : Int} {v_De : Int} {v_Ev : Int} (h : SVf (.agg [.v (.int .i64 v_Ba), .v (.int .i64 v_Wi), .v (.int .i64 v_Ra), .v (.int .i64 v_Mo), .v (.int .i64 v_De), .v (.int .i64 v_Ev)])) : (-9223372036854775808 ≤ v_Ba ∧ v_Ba ≤ 9223372036854775807) ∧ (-9223372036854775808 ≤ v_Wi ∧ v_Wi ≤ 9223372036854775807) ∧ (-9223372036854775808 ≤ v_Ra ∧ v_Ra ≤ 9223372036854775807) ∧ (-9223372036854775808 ≤ v_Mo ∧ v_Mo ≤ 9223372036854775807) ∧ (-9223372036854775808 ≤ v_De ∧ v_De ≤ 9223372036854775807) ∧ (-9223372036854775808 ≤ v_Ev ∧ v_Ev ≤ 9223372036854775807) := by
  exact ⟨of_i64 (h (.v (.int .i64 v_Ba)) (by simp)), of_i64 (h (.v (.int .i64 v_Wi)) (by simp)), of_i64 (h (.v (.int .i64 v_Ra)) (by simp)), of_i64 (h (.v (.int .i64 v_Mo)) (by simp)), of_i64 (h (.v (.int .i64 v_De)) (by simp)), of_i64 (h (.v (.int .i64 v_Ev)) (by simp))⟩
abbrev plTy : Ty := .st [.int .u64, .int .i64, .int .i64]
theorem argSV_pl {a : AV} {x : SV} (h : argSV plTy a = some x) : ∃ (v_se : Int) (v_st : Int) (v_la : Int), a = .st [.z v_se, .z v_st, .z v_la] ∧ x = .agg [.v (.int .u64 v_se), .v (.int .i64 v_st), .v (.int .i64 v_la)] := by
  obtain ⟨as0, l0, rfl, rfl, h0⟩ := argSV_st h
  obtain ⟨a1, as1, x1, m1, rfl, rfl, p1, h1⟩ := svAVs_cons h0
  obtain ⟨v_se, rfl, rfl⟩ := svAV_int p1
  obtain ⟨a2, as2, x2, m2, rfl, rfl, p2, h2⟩ := svAVs_cons h1
  obtain ⟨v_st, rfl, rfl⟩ := svAV_int p2
  obtain ⟨a3, as3, x3, m3, rfl, rfl, p3, h3⟩ := svAVs_cons h2
  obtain ⟨v_la, rfl, rfl⟩ := svAV_int p3
  obtain ⟨rfl, rfl⟩ := svAVs_nil h3
  exact ⟨v_se, v_st, v_la, rfl, rfl⟩
theorem svf_pl {v_se : Int} {v_st : Int} {v_la : Int} (h : SVf (.agg [.v (.int .u64 v_se), .v (.int .i64 v_st), .v (.int .i64 v_la)])) : ((Lit.int .u64 v_se).wf = true) ∧ (-9223372036854775808 ≤ v_st ∧ v_st ≤ 9223372036854775807) ∧ (-9223372036854775808 ≤ v_la ∧ v_la ≤ 9223372036854775807) := by
  exact ⟨h (.v (.int .u64 v_se)) (by simp), of_i64 (h (.v (.int .i64 v_st)) (by simp)), of_i64 (h (.v (.int .i64 v_la)) (by simp))⟩
theorem fits32 {l : List Int} (h : Fits .i32 l) (i : Nat) : -2147483648 ≤ l.getD i 0 ∧ l.getD i 0 ≤ 2147483647 := by
  have := (stdIn_iff .i32 _).2 (fits_getD h i)
  exact this
def strmI (s l k : Int) : Int := if (0 ≤ s ∧ s ≤ 1000000) ∧ (0 ≤ l ∧ l ≤ 12) ∧ (0 ≤ k ∧ k ≤ 15) then s * 1024 + l * 16 + k else 0
def strmF (xa : List AV) : Int := match xa with
  | [.z s, .z l, .z k] => strmI s l k
  | _ => 0
theorem strm_ok : CtrOk Try.prog 27 (intC [.int .i64, .int .i64, .int .i64] .u64 strmF) := by
  obtain ⟨G, hG⟩ : ∃ G : List (FuncId × Ctr), G = [] := ⟨_, rfl⟩
  refine fn_inl (ck := true) [(68, Try.f68)] ⟨⟨Try.func68, by unfold FnOk; kernel_rfl, by kernel_rfl⟩, trivial⟩ Try.func27 rfl tt_ok (G := G) (by rw [hG]; exact trivial) mixed (by kernel_rfl) ?_
  intro xa xs h hx hp
  obtain ⟨a0, as0, x0, xs0, rfl, rfl, h0, H1⟩ := svArgs_cons h
  obtain ⟨a1, as1, x1, xs1, rfl, rfl, h1, H2⟩ := svArgs_cons H1
  obtain ⟨a2, as2, x2, xs2, rfl, rfl, h2, H3⟩ := svArgs_cons H2
  obtain ⟨rfl, rfl⟩ := svArgs_nil H3
  obtain ⟨s, rfl, rfl⟩ := argSV_int h0
  obtain ⟨l, rfl, rfl⟩ := argSV_int h1
  obtain ⟨k, rfl, rfl⟩ := argSV_int h2
  have ss := of_i64 (hx (.v (.int .i64 s)) (by simp))
  have sl := of_i64 (hx (.v (.int .i64 l)) (by simp))
  have sk := of_i64 (hx (.v (.int .i64 k)) (by simp))
  have SS := Lib.hid ss
  clear ss
  have SL := Lib.hid sl
  clear sl
  have SK := Lib.hid sk
  clear sk
  clear hx hp h h0 H1 h1 H2 h2 H3
  generalize hA : std = A
  subst hG
  generalize h_c : ci = c
  generalize h_fR : strmF = fR
  cbv
  (repeat' (first | apply And.intro | apply BrB.mk | apply BrP.mk | intro _))
  (all_goals (subst hA; subst h_c; subst h_fR); all_goals (have f_ss := SS.out; have f_sl := SL.out; have f_sk := SK.out); all_goals (try simp only [std, stdBin, stdCmp, stdUna, stdIn, ci, beq_iff_eq, bne_iff_ne, beq_eq_false_iff_ne, bne_eq_false_iff_eq, decide_eq_true_eq, decide_eq_false_iff_not, Bool.not_true, Bool.not_false, Bool.not_eq_true', Bool.not_eq_false', Bool.not_not, tn0, tn1, tn2, tn3, strmF, strmI] at *); all_goals (try omega))
  all_goals (try (rw [if_neg (by omega)]; done))
  all_goals (try (rw [if_pos (by omega), IntKind.wrap_u64]; exact congrArg _ (by omega)))
  all_goals (try omega)
/-- Chance of a place. -/
def pchI (se st la v sh k i : Int) : Int := chanceI v sh (bv (atI se (strmI st la k) (IntKind.u64.wrap i)))
def pchF (xa : List AV) : Int := match xa with
  | [.st [.z se, .z st, .z la], .z v, .z sh, .z k, .z i] => pchI se st la v sh k i
  | _ => 0
theorem pch_ok : CtrOk Try.prog 110 (intC [plTy, .int .i64, .int .i64, .int .i64, .int .i64] .i64 pchF) := by
  obtain ⟨G, hG⟩ : ∃ G : List (FuncId × Ctr), G = [(25, intC [.int .i64, .int .i64, .int .u64] .i64 chF), (26, intC [.int .u64, .int .u64, .int .u64] .u64 atF), (27, intC [.int .i64, .int .i64, .int .i64] .u64 strmF)] := ⟨_, rfl⟩
  refine fn_inl (ck := true) [(47, Try.f47)] ⟨⟨Try.func47, by unfold FnOk; kernel_rfl, by kernel_rfl⟩, trivial⟩ Try.func110 rfl tt_ok (G := G) (by rw [hG]; exact ⟨⟨chance_ok, by unfold FnOk; kernel_rfl⟩, ⟨at_ok, by unfold FnOk; kernel_rfl⟩, ⟨strm_ok, by unfold FnOk; kernel_rfl⟩, trivial⟩) mixed (by kernel_rfl) ?_
  intro xa xs h hx hp
  obtain ⟨a0, as0, x0, xs0, rfl, rfl, h0, H1⟩ := svArgs_cons h
  obtain ⟨a1, as1, x1, xs1, rfl, rfl, h1, H2⟩ := svArgs_cons H1
  obtain ⟨a2, as2, x2, xs2, rfl, rfl, h2, H3⟩ := svArgs_cons H2
  obtain ⟨a3, as3, x3, xs3, rfl, rfl, h3, H4⟩ := svArgs_cons H3
  obtain ⟨a4, as4, x4, xs4, rfl, rfl, h4, H5⟩ := svArgs_cons H4
  obtain ⟨rfl, rfl⟩ := svArgs_nil H5
  obtain ⟨pse, pst, pla, rfl, rfl⟩ := argSV_pl h0
  obtain ⟨v, rfl, rfl⟩ := argSV_int h1
  obtain ⟨s, rfl, rfl⟩ := argSV_int h2
  obtain ⟨k, rfl, rfl⟩ := argSV_int h3
  obtain ⟨i, rfl, rfl⟩ := argSV_int h4
  have sp : ((Lit.int .u64 pse).wf = true) ∧ (-9223372036854775808 ≤ pst ∧ pst ≤ 9223372036854775807) ∧ (-9223372036854775808 ≤ pla ∧ pla ≤ 9223372036854775807) := svf_pl (hx (.agg [.v (.int .u64 pse), .v (.int .i64 pst), .v (.int .i64 pla)]) (List.mem_of_getElem? (i := 0) rfl))
  have sv := of_i64 (hx (.v (.int .i64 v)) (by simp))
  have ss := of_i64 (hx (.v (.int .i64 s)) (by simp))
  have sk := of_i64 (hx (.v (.int .i64 k)) (by simp))
  have si := of_i64 (hx (.v (.int .i64 i)) (by simp))
  have SP := Lib.hid sp
  clear sp
  have SV := Lib.hid sv
  clear sv
  have SS := Lib.hid ss
  clear ss
  have SK := Lib.hid sk
  clear sk
  have SI := Lib.hid si
  clear si
  clear hx hp h h0 H1 h1 H2 h2 H3 h3 H4 h4 H5
  generalize hA : std = A
  subst hG
  generalize h_c : ci = c
  generalize h_fc : chF = fc
  generalize h_fa : atF = fa
  generalize h_fs : strmF = fs
  generalize h_fR : pchF = fR
  cbv
  (repeat' (first | apply And.intro | apply BrB.mk | apply BrP.mk | intro _))
  (all_goals (subst hA; subst h_c; subst h_fc; subst h_fa; subst h_fs; subst h_fR); all_goals (have f_sp := SP.out; have f_sv := SV.out; have f_ss := SS.out; have f_sk := SK.out; have f_si := SI.out); all_goals (try simp only [std, stdBin, stdCmp, stdUna, stdIn, ci, beq_iff_eq, bne_iff_ne, beq_eq_false_iff_ne, bne_eq_false_iff_eq, decide_eq_true_eq, decide_eq_false_iff_not, Bool.not_true, Bool.not_false, Bool.not_eq_true', Bool.not_eq_false', Bool.not_not, tn0, tn1, tn2, tn3, chF, atF, strmF, pchF] at *); all_goals (try omega))
  all_goals first | rfl | trace_state
/-- A tensor comes, where it goes well. -/
def tnPO (ts : List Ty) (k : IntKind) (tI tK : TypeId) (p : List AV → Prop) (r : List AV → Tn) : Ctr :=
  ⟨ts, fun xa => some (p xa), fun xa => .ret (.agg [.hdl 0, .v (.int .i64 (r xa).exp), .hdl 1]) [(0, .irow tI .i64 (r xa).dims), (2, .irow tK k (r xa).data)], false⟩
def clP (xa : List AV) : Prop := match xa with
  | [.st [.l D, .z e, .l L]] => (D.length : Int) * 8 ≤ 140737488355328 ∧ (L.length : Int) * 1 ≤ 140737488355328
  | _ => False
def clR (xa : List AV) : Tn := match xa with
  | [.st [.l D, .z e, .l L]] => ⟨D, e, L⟩
  | _ => ⟨[], 0, []⟩
theorem tclone_ok : CtrOk Try.prog 42 (tnPO [tnTy .i8] .i8 3 52 clP clR) := by
  obtain ⟨G, hG⟩ : ∃ G : List (FuncId × Ctr), G = [(100, rowP [.sl (.int .i64)] 3 .i64 (lenP 8) sameL), (101, rowP [.sl (.int .i8)] 52 .i8 (lenP 1) sameL)] := ⟨_, rfl⟩
  refine fn_ok (ck := true) Try.func42 rfl tt_ok (G := G) (by rw [hG]; exact ⟨⟨cloneI_ok, by unfold FnOk; kernel_rfl⟩, ⟨clone8_ok, by unfold FnOk; kernel_rfl⟩, trivial⟩) mixed (by kernel_rfl) ?_
  intro xa xs h hx hp
  obtain ⟨a0, as0, x0, xs0, rfl, rfl, h0, H1⟩ := svArgs_cons h
  obtain ⟨rfl, rfl⟩ := svArgs_nil H1
  obtain ⟨⟨tD, tE, tL⟩, rfl, rfl⟩ := argSV_tn h0
  have st : (Fits .i64 tD ∧ ci tD.length ≤ 9223372036854775807) ∧ (-9223372036854775808 ≤ tE ∧ tE ≤ 9223372036854775807) ∧ Fits .i8 tL ∧ ci tL.length ≤ 9223372036854775807 := svf_tn (hx (Tn.sv .i8 ⟨tD, tE, tL⟩) (by simp))
  have ST := Lib.hid st
  clear st
  have HP := Lib.hid (hp _ rfl)
  clear hx hp h h0 H1
  generalize hA : std = A
  subst hG
  generalize h_c : ci = c
  generalize h_fl : lenP 8 = fl
  generalize h_fm : lenP 1 = fm
  generalize h_fc : sameL = fc
  generalize h_fR : clR = fR
  generalize h_fp : clP = fp
  cbv
  (repeat' (first | apply And.intro | apply BrB.mk | apply BrP.mk | intro _))
  (all_goals (subst hA; subst h_c; subst h_fl; subst h_fm; subst h_fc; subst h_fR; subst h_fp); all_goals (have f_st := ST.out; have f_hp := HP.out); all_goals (try simp only [std, stdBin, stdCmp, stdUna, stdIn, ci, beq_iff_eq, bne_iff_ne, beq_eq_false_iff_ne, bne_eq_false_iff_eq, decide_eq_true_eq, decide_eq_false_iff_not, Bool.not_true, Bool.not_false, Bool.not_eq_true', Bool.not_eq_false', Bool.not_not, tn0, tn1, tn2, tn3, lenP, sameL, clR, clP] at *); all_goals (try omega))
  all_goals (have q := (show (tD.length : Int) * 8 ≤ 140737488355328 ∧ (tL.length : Int) * 1 ≤ 140737488355328 from f_hp))
  all_goals first | rfl | exact q.1 | exact q.2 | omega | trace_state
def momA (M u : List Int) (mo : Int) (i : Nat) : Int := cl (M.getD i 0 - downI (M.getD i 0) mo + u.getD i 0) (-1048576) 1048576
def momP (xa : List AV) : Prop := match xa with
  | [.l M, .l u, _] => M.length ≤ u.length ∧ (M.length : Int) ≤ 8192
  | _ => False
def momF (xa : List AV) : List Int := match xa with
  | [.l M, .l u, .st [.z _, .z _, .z _, .z mo, .z _, .z _]] => (List.range M.length).map (momA M u mo)
  | _ => []
theorem mom_ok : CtrOk Try.prog 48 (rowP [.sl (.int .i32), .sl (.int .i8), hyTy] 21 .i32 momP momF) := by
  obtain ⟨G, hG⟩ : ∃ G : List (FuncId × Ctr), G = [(109, intC [.int .i64, .int .i64] .i64 downF)] := ⟨_, rfl⟩
  refine fn_ok (ck := true) Try.func48 rfl tt_ok (G := G) (by rw [hG]; exact ⟨⟨down_ok, by unfold FnOk; kernel_rfl⟩, trivial⟩) mixed (by kernel_rfl) ?_
  intro xa xs h hx hp
  obtain ⟨a0, as0, x0, xs0, rfl, rfl, h0, H1⟩ := svArgs_cons h
  obtain ⟨a1, as1, x1, xs1, rfl, rfl, h1, H2⟩ := svArgs_cons H1
  obtain ⟨a2, as2, x2, xs2, rfl, rfl, h2, H3⟩ := svArgs_cons H2
  obtain ⟨rfl, rfl⟩ := svArgs_nil H3
  obtain ⟨M, rfl, rfl⟩ := argSV_ints h0
  obtain ⟨u, rfl, rfl⟩ := argSV_ints h1
  obtain ⟨hBa, hWi, hRa, hMo, hDe, hEv, rfl, rfl⟩ := argSV_hy h2
  have sM : Fits .i32 M ∧ ci M.length ≤ 9223372036854775807 := svf_ints (hx (.iimm .i32 M) (by simp))
  have su : Fits .i8 u ∧ ci u.length ≤ 9223372036854775807 := svf_ints (hx (.iimm .i8 u) (by simp))
  have sh : (-9223372036854775808 ≤ hBa ∧ hBa ≤ 9223372036854775807) ∧ (-9223372036854775808 ≤ hWi ∧ hWi ≤ 9223372036854775807) ∧ (-9223372036854775808 ≤ hRa ∧ hRa ≤ 9223372036854775807) ∧ (-9223372036854775808 ≤ hMo ∧ hMo ≤ 9223372036854775807) ∧ (-9223372036854775808 ≤ hDe ∧ hDe ≤ 9223372036854775807) ∧ (-9223372036854775808 ≤ hEv ∧ hEv ≤ 9223372036854775807) := svf_hy (hx (.agg [.v (.int .i64 hBa), .v (.int .i64 hWi), .v (.int .i64 hRa), .v (.int .i64 hMo), .v (.int .i64 hDe), .v (.int .i64 hEv)]) (List.mem_of_getElem? (i := 2) rfl))
  have SM := Lib.hid sM
  clear sM
  have SU := Lib.hid su
  clear su
  have SH := Lib.hid sh
  clear sh
  have HP := Lib.hid (hp _ rfl)
  clear hx hp h h0 H1 h1 H2 h2 H3
  generalize hA : std = A
  subst hG
  generalize h_c : ci = c
  generalize h_fd : downF = fd
  generalize h_fR : momF = fR
  generalize h_pm : momP = pm
  obtain ⟨S, hS⟩ : ∃ S : Nat → List Int, ∀ x, S x = mixL (fun _ => 0) (momA M u hMo) M.length x := ⟨_, fun _ => rfl⟩
  have HSS := Lib.hid hS
  clear hS
  cbv
  (repeat' (first | apply And.intro | apply BrB.mk | apply BrP.mk | intro _))
  all_goals try (refine loop_at Nat 16 (fun x => [(8, .any), (9, .any), (10, .any), (16, .v (.int .i64 (c x)))]) (fun x o => o.set 1 (.irow 21 .i32 (S x))) (fun x => x ≤ M.length) (fun x => M.length - x) 0 ?h0 ?hle ?round)
  case h0 => exact Nat.zero_le _
  case hle =>
    cbv
    (repeat' (first | apply And.intro | apply BrB.mk | apply BrP.mk | intro _))
    (all_goals (subst hA; subst h_c; subst h_fd; subst h_fR; subst h_pm); all_goals (have f_sm := SM.out; have f_su := SU.out; have f_sh := SH.out; have f_hp := HP.out); all_goals (try simp only [std, stdBin, stdCmp, stdUna, stdIn, ci, beq_iff_eq, bne_iff_ne, beq_eq_false_iff_ne, bne_eq_false_iff_eq, decide_eq_true_eq, decide_eq_false_iff_not, Bool.not_true, Bool.not_false, Bool.not_eq_true', Bool.not_eq_false', Bool.not_not, tn0, tn1, tn2, tn3, momP] at *); all_goals (try omega))
    all_goals first | exact True.intro | rfl | (rw [HSS.out, mixL_nil, Int.toNat_natCast]; done) | trace_state
  case round =>
    intro x hx
    cbv
    (repeat' (first | apply And.intro | apply BrB.mk | apply BrP.mk | intro _))
    all_goals try (refine ⟨x + 1, ?_, ?_, ?_⟩)
    all_goals try (show AS.le _ _; cbv; (repeat' (first | apply And.intro | apply BrB.mk | apply BrP.mk | intro _)))
    (all_goals (subst hA; subst h_c; subst h_fd; subst h_fR; subst h_pm); all_goals (have f_sm := SM.out; have f_su := SU.out; have f_sh := SH.out; have f_hp := HP.out); all_goals (try simp only [std, stdBin, stdCmp, stdUna, stdIn, ci, beq_iff_eq, bne_iff_ne, beq_eq_false_iff_ne, bne_eq_false_iff_eq, decide_eq_true_eq, decide_eq_false_iff_not, Bool.not_true, Bool.not_false, Bool.not_eq_true', Bool.not_eq_false', Bool.not_not, tn0, tn1, tn2, tn3, momP, downF, momF, Int.toNat_natCast] at *); all_goals (try omega))
    all_goals (have b1 := fits32 f_sm.1 x; have b2 := fits8 f_su.1 x; have b3 := down_bd (v := M.getD x 0) (s := hMo) (B := 2147483648) (by decide) (by omega); have sl : (S x).length = M.length := (by rw [HSS.out, mixL_len]))
    all_goals (try omega)
    all_goals first
      | exact True.intro
      | rfl
      | (rw [HSS.out, show x = M.length by omega, mixL_all]; done)
      | (rw [HSS.out, HSS.out]; refine mixL_store (by omega) ?_; unfold momA cl; rw [w32 (by split <;> split <;> omega) (by split <;> split <;> omega)]; split <;> split <;> omega)
      | (split <;> split <;> omega)
      | trace_state
  (all_goals (subst hA; subst h_c; subst h_fd; subst h_fR; subst h_pm); all_goals (have f_sm := SM.out; have f_su := SU.out; have f_sh := SH.out; have f_hp := HP.out); all_goals (try simp only [std, stdBin, stdCmp, stdUna, stdIn, ci, beq_iff_eq, bne_iff_ne, beq_eq_false_iff_ne, bne_eq_false_iff_eq, decide_eq_true_eq, decide_eq_false_iff_not, Bool.not_true, Bool.not_false, Bool.not_eq_true', Bool.not_eq_false', Bool.not_not, tn0, tn1, tn2, tn3, momP] at *); all_goals (try omega))
  all_goals trace_state
theorem range_getD (l : List Int) : (List.range l.length).map (fun i => l.getD i 0) = l := by
  apply List.ext_getElem
  · simp
  · intro i h1 h2
    simp [List.getD_eq_getElem?_getD, List.getElem?_eq_getElem h2]
def biA (L v : List Int) (ra se st la : Int) (i : Nat) : Int := clampI (L.getD i 0 - pchI se st la (v.getD i 0) ra 6 (i : Int)) 8
def biP (xa : List AV) : Prop := match xa with
  | [.st [.l D, .z e, .l L], .l v, _, _] => mayB ⟨D, e, L⟩ = true ∧ L.length ≤ v.length
  | _ => False
def biR (xa : List AV) : Tn := match xa with
  | [.st [.l D, .z e, .l L], .l v, .st [.z _, .z _, .z ra, .z _, .z _, .z _], .st [.z se, .z st, .z la]] => ⟨D, e, (List.range L.length).map (biA L v ra se st la)⟩
  | _ => ⟨[], 0, []⟩
theorem may_len {D L : List Int} {e : Int} (h : mayB ⟨D, e, L⟩ = true) : (D.length : Int) ≤ 4 ∧ (L.length : Int) ≤ 8192 ∧ -64 ≤ e ∧ e ≤ 64 := by
  obtain ⟨h1, h2, h3, h4⟩ := (mayB_eq D L e).1 h
  have h5 := ((mayD_iff D).1 h1).1
  have h6 := szD_in D
  omega
theorem pch_bd {v B : Int} (se st la sh k i : Int) (hB : 0 ≤ B) (hv : -B ≤ v ∧ v ≤ B) : -B ≤ pchI se st la v sh k i ∧ pchI se st la v sh k i ≤ B := chance_bd _ hB hv
theorem bia_ok : CtrOk Try.prog 50 (tnPO [tnTy .i8, .sl (.int .i8), hyTy, plTy] .i8 3 52 biP biR) := by
  obtain ⟨G, hG⟩ : ∃ G : List (FuncId × Ctr), G = [(110, intC [plTy, .int .i64, .int .i64, .int .i64, .int .i64] .i64 pchF), (29, intC [.int .i64, .int .i64] .i64 clampF), (42, tnPO [tnTy .i8] .i8 3 52 clP clR)] := ⟨_, rfl⟩
  refine fn_ok (ck := true) Try.func50 rfl tt_ok (G := G) (by rw [hG]; exact ⟨⟨pch_ok, by unfold FnOk; kernel_rfl⟩, ⟨clamp_ok, by unfold FnOk; kernel_rfl⟩, ⟨tclone_ok, by unfold FnOk; kernel_rfl⟩, trivial⟩) mixed (by kernel_rfl) ?_
  intro xa xs h hx hp
  obtain ⟨a0, as0, x0, xs0, rfl, rfl, h0, H1⟩ := svArgs_cons h
  obtain ⟨a1, as1, x1, xs1, rfl, rfl, h1, H2⟩ := svArgs_cons H1
  obtain ⟨a2, as2, x2, xs2, rfl, rfl, h2, H3⟩ := svArgs_cons H2
  obtain ⟨a3, as3, x3, xs3, rfl, rfl, h3, H4⟩ := svArgs_cons H3
  obtain ⟨rfl, rfl⟩ := svArgs_nil H4
  obtain ⟨⟨bD, bE, bL⟩, rfl, rfl⟩ := argSV_tn h0
  obtain ⟨v, rfl, rfl⟩ := argSV_ints h1
  obtain ⟨hBa, hWi, hRa, hMo, hDe, hEv, rfl, rfl⟩ := argSV_hy h2
  obtain ⟨pse, pst, pla, rfl, rfl⟩ := argSV_pl h3
  have sb : (Fits .i64 bD ∧ ci bD.length ≤ 9223372036854775807) ∧ (-9223372036854775808 ≤ bE ∧ bE ≤ 9223372036854775807) ∧ Fits .i8 bL ∧ ci bL.length ≤ 9223372036854775807 := svf_tn (hx (Tn.sv .i8 ⟨bD, bE, bL⟩) (by simp))
  have sv : Fits .i8 v ∧ ci v.length ≤ 9223372036854775807 := svf_ints (hx (.iimm .i8 v) (by simp))
  have sh : (-9223372036854775808 ≤ hBa ∧ hBa ≤ 9223372036854775807) ∧ (-9223372036854775808 ≤ hWi ∧ hWi ≤ 9223372036854775807) ∧ (-9223372036854775808 ≤ hRa ∧ hRa ≤ 9223372036854775807) ∧ (-9223372036854775808 ≤ hMo ∧ hMo ≤ 9223372036854775807) ∧ (-9223372036854775808 ≤ hDe ∧ hDe ≤ 9223372036854775807) ∧ (-9223372036854775808 ≤ hEv ∧ hEv ≤ 9223372036854775807) := svf_hy (hx (.agg [.v (.int .i64 hBa), .v (.int .i64 hWi), .v (.int .i64 hRa), .v (.int .i64 hMo), .v (.int .i64 hDe), .v (.int .i64 hEv)]) (List.mem_of_getElem? (i := 2) rfl))
  have sp : ((Lit.int .u64 pse).wf = true) ∧ (-9223372036854775808 ≤ pst ∧ pst ≤ 9223372036854775807) ∧ (-9223372036854775808 ≤ pla ∧ pla ≤ 9223372036854775807) := svf_pl (hx (.agg [.v (.int .u64 pse), .v (.int .i64 pst), .v (.int .i64 pla)]) (List.mem_of_getElem? (i := 3) rfl))
  have SB := Lib.hid sb
  clear sb
  have SV := Lib.hid sv
  clear sv
  have SH := Lib.hid sh
  clear sh
  have SP := Lib.hid sp
  clear sp
  have HP := Lib.hid (hp _ rfl)
  clear hx hp h h0 H1 h1 H2 h2 H3 h3 H4
  generalize hA : std = A
  subst hG
  generalize h_c : ci = c
  generalize h_fp : pchF = fp
  generalize h_fc : clampF = fc
  generalize h_pc : clP = pc
  generalize h_fk : clR = fk
  generalize h_fR : biR = fR
  generalize h_pm : biP = pm
  obtain ⟨S, hS⟩ : ∃ S : Nat → List Int, ∀ x, S x = mixL (fun i => bL.getD i 0) (biA bL v hRa pse pst pla) bL.length x := ⟨_, fun _ => rfl⟩
  have HSS := Lib.hid hS
  clear hS
  cbv
  (repeat' (first | apply And.intro | apply BrB.mk | apply BrP.mk | intro _))
  all_goals try (refine loop_at Nat 17 (fun x => [(10, .any), (11, .any), (17, .v (.int .i64 (c x)))]) (fun x o => o.set 5 (.irow 52 .i8 (S x))) (fun x => x ≤ bL.length) (fun x => bL.length - x) 0 ?h0 ?hle ?round)
  case h0 => exact Nat.zero_le _
  case hle =>
    cbv
    (repeat' (first | apply And.intro | apply BrB.mk | apply BrP.mk | intro _))
    (all_goals (subst hA; subst h_c; subst h_fp; subst h_fc; subst h_pc; subst h_fk; subst h_fR; subst h_pm); all_goals (have f_sb := SB.out; have f_sv := SV.out; have f_sh := SH.out; have f_sp := SP.out; have f_hp := HP.out); all_goals (try simp only [std, stdBin, stdCmp, stdUna, stdIn, ci, beq_iff_eq, bne_iff_ne, beq_eq_false_iff_ne, bne_eq_false_iff_eq, decide_eq_true_eq, decide_eq_false_iff_not, Bool.not_true, Bool.not_false, Bool.not_eq_true', Bool.not_eq_false', Bool.not_not, tn0, tn1, tn2, tn3, biP, clP, clR] at *); all_goals (try omega))
    all_goals first | exact True.intro | rfl | (rw [HSS.out, mixL_none, range_getD]; done) | trace_state
  case round =>
    intro x hx
    cbv
    (repeat' (first | apply And.intro | apply BrB.mk | apply BrP.mk | intro _))
    all_goals try (refine ⟨x + 1, ?_, ?_, ?_⟩)
    all_goals try (show AS.le _ _; cbv; (repeat' (first | apply And.intro | apply BrB.mk | apply BrP.mk | intro _)))
    (all_goals (subst hA; subst h_c; subst h_fp; subst h_fc; subst h_pc; subst h_fk; subst h_fR; subst h_pm); all_goals (have f_sb := SB.out; have f_sv := SV.out; have f_sh := SH.out; have f_sp := SP.out; have f_hp := HP.out); all_goals (try simp only [std, stdBin, stdCmp, stdUna, stdIn, ci, beq_iff_eq, bne_iff_ne, beq_eq_false_iff_ne, bne_eq_false_iff_eq, decide_eq_true_eq, decide_eq_false_iff_not, Bool.not_true, Bool.not_false, Bool.not_eq_true', Bool.not_eq_false', Bool.not_not, tn0, tn1, tn2, tn3, biP, clP, clR, pchF, clampF, Int.toNat_natCast] at *); all_goals (try omega))
    all_goals (obtain ⟨hm, hl⟩ := (show mayB ⟨bD, bE, bL⟩ = true ∧ bL.length ≤ v.length from f_hp); have ml := may_len hm; have b1 := fits8 f_sb.2.2.1 x; have b2 := fits8 f_sv.1 x; have b3 := pch_bd (v := v.getD x 0) (B := 128) pse pst pla hRa 6 (x : Int) (by decide) (by omega); have b4 := clamp8_in (bL.getD x 0 - pchI pse pst pla (v.getD x 0) hRa 6 (x : Int)); have sl : (S x).length = bL.length := (by rw [HSS.out, mixL_len]))
    all_goals (try omega)
    all_goals first
      | exact True.intro
      | rfl
      | (show S x = (List.range bL.length).map _; rw [HSS.out, show x = bL.length by omega, mixL_all]; done)
      | (rw [HSS.out, HSS.out]; refine mixL_store (by omega) ?_; rw [w8 (by omega) (by omega)]; rfl)
      | trace_state
  (all_goals (subst hA; subst h_c; subst h_fp; subst h_fc; subst h_pc; subst h_fk; subst h_fR; subst h_pm); all_goals (have f_sb := SB.out; have f_sv := SV.out; have f_sh := SH.out; have f_sp := SP.out; have f_hp := HP.out); all_goals (try simp only [std, stdBin, stdCmp, stdUna, stdIn, ci, beq_iff_eq, bne_iff_ne, beq_eq_false_iff_ne, bne_eq_false_iff_eq, decide_eq_true_eq, decide_eq_false_iff_not, Bool.not_true, Bool.not_false, Bool.not_eq_true', Bool.not_eq_false', Bool.not_not, tn0, tn1, tn2, tn3, biP, clP] at *); all_goals (try omega))
  all_goals (obtain ⟨hm, hl⟩ := (show mayB ⟨bD, bE, bL⟩ = true ∧ bL.length ≤ v.length from f_hp); have ml := may_len hm)
  all_goals (try omega)
  all_goals trace_state
end Go.Proofs.Ytekokhlldcmjfaa
