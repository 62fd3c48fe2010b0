/- Layer 21: by hand. -/
import Derived.Test.YtekokhlldcmjfaaOptK
namespace Go.Proofs.Ytekokhlldcmjfaa
open Go.RowKit
set_option maxRecDepth 1000000
set_option linter.unusedSimpArgs false
set_option linter.unusedVariables false
set_option maxHeartbeats 16000000
set_option cbv.maxSteps 10000000
theorem hand21_ok : CtrOk Try.prog 6 (boolC [.sl (.int .i8), .sl (.int .i8), .int .i64, .int .u64, .int .i64] yes21) := by
  obtain ⟨G, hG⟩ : ∃ G : List (FuncId × Ctr), G = [(16, prmP [prmTy, grdTy, hyTy, .int .u64, .int .i64, .int .i64] 3 52 21 stQ stR), (25, intC [.int .i64, .int .i64, .int .u64] .i64 chF), (26, intC [.int .u64, .int .u64, .int .u64] .u64 atF), (27, intC [.int .i64, .int .i64, .int .i64] .u64 strmF), (28, intC [.int .i64, .int .i64] .i64 nearF), (29, intC [.int .i64, .int .i64] .i64 clampF), (30, boolC [tnTy .i8] tnMayF), (15, boolC [] yes21)] := ⟨_, rfl⟩
  refine fn_ok (ck := true) Try.func6 rfl tt_ok (G := G) (by rw [hG]; exact ⟨⟨stepP_ok, by unfold FnOk; kernel_rfl⟩, ⟨chance_ok, by unfold FnOk; kernel_rfl⟩, ⟨at_ok, by unfold FnOk; kernel_rfl⟩, ⟨strm_ok, by unfold FnOk; kernel_rfl⟩, ⟨near_ok, by unfold FnOk; kernel_rfl⟩, ⟨clamp_ok, by unfold FnOk; kernel_rfl⟩, ⟨rmayT_ok, by unfold FnOk; kernel_rfl⟩, ⟨awake21_ok, by unfold FnOk; kernel_rfl⟩, trivial⟩) mixed (by kernel_rfl) ?_
  intro xa xs h hx hp
  obtain ⟨a0, as0, x0, xs0, rfl, rfl, h0, H1⟩ := svArgs_cons h
  obtain ⟨a1, as1, x1, xs1, rfl, rfl, h1, H2⟩ := svArgs_cons H1
  obtain ⟨a2, as2, x2, xs2, rfl, rfl, h2, H3⟩ := svArgs_cons H2
  obtain ⟨a3, as3, x3, xs3, rfl, rfl, h3, H4⟩ := svArgs_cons H3
  obtain ⟨a4, as4, x4, xs4, rfl, rfl, h4, H5⟩ := svArgs_cons H4
  obtain ⟨rfl, rfl⟩ := svArgs_nil H5
  obtain ⟨w, rfl, rfl⟩ := argSV_ints h0
  obtain ⟨g, rfl, rfl⟩ := argSV_ints h1
  obtain ⟨r, rfl, rfl⟩ := argSV_int h2
  obtain ⟨s, rfl, rfl⟩ := argSV_int h3
  obtain ⟨t, rfl, rfl⟩ := argSV_int h4
  have sw : Fits .i8 w ∧ ci w.length ≤ 9223372036854775807 := svf_ints (hx (.iimm .i8 w) (by simp))
  have sg : Fits .i8 g ∧ ci g.length ≤ 9223372036854775807 := svf_ints (hx (.iimm .i8 g) (by simp))
  have sr := of_i64 (hx (.v (.int .i64 r)) (by simp))
  have ss : (Lit.int .u64 s).wf = true := (hx (.v (.int .u64 s)) (by simp))
  have st := of_i64 (hx (.v (.int .i64 t)) (by simp))
  have SW := Lib.hid sw
  clear sw
  have SG := Lib.hid sg
  clear sg
  have SR := Lib.hid sr
  clear sr
  have SS := Lib.hid ss
  clear ss
  have ST := Lib.hid st
  clear st
  clear hx hp h h0 H1 h1 H2 h2 H3 h3 H4 h4 H5
  generalize hA : std = A
  subst hG
  generalize h_c : ci = c
  generalize h_fQ : stQ = fQ
  generalize h_fR : stR = fR
  generalize h_fc : chF = fc
  generalize h_fa : atF = fa
  generalize h_fs : strmF = fs
  generalize h_fn : nearF = fn
  generalize h_fk : clampF = fk
  generalize h_fm : tnMayF = fm
  generalize h_fY : yes21 = fY
  obtain ⟨N, hN⟩ := hand_n (ci w.length) (ci g.length) (by simp [ci]) (by simp [ci])
  have HN := Lib.hid hN
  clear hN
  obtain ⟨F, hFF⟩ : ∃ F : Nat → Int, ∀ x, F x = hF w g (IntKind.i64.wrap ((IntKind.u64.wrap r).tmod 9)) s (IntKind.i64.wrap ((IntKind.u64.wrap t).tmod 1000)) x := ⟨_, fun _ => rfl⟩
  obtain ⟨S, hS⟩ : ∃ S : Nat → List Int, ∀ x, S x = mixL (fun _ => 0) (gA w) N x := ⟨_, fun _ => rfl⟩
  obtain ⟨Q, hQ⟩ : ∃ Q : Nat → List Int, ∀ x, Q x = mixL (fun _ => 0) (gA g) N x := ⟨_, fun _ => rfl⟩
  obtain ⟨W, hW⟩ : ∃ W : Nat → List Int, ∀ x, W x = (List.range x).map F := ⟨_, fun _ => rfl⟩
  obtain ⟨O, hO⟩ : ∃ O : Nat → Bool, ∀ x, O x = ovB F x := ⟨_, fun _ => rfl⟩
  have HF := Lib.hid hFF
  have HSS := Lib.hid hS
  have HQ := Lib.hid hQ
  have HW := Lib.hid hW
  have HO := Lib.hid hO
  clear hFF hS hQ hW hO
  cbv
  (repeat' (first | apply And.intro | apply BrB.mk | apply BrP.mk | intro _))
  all_goals try (refine loop_nil (hR := True.intro) [.slot 15 2 .i64] Nat 59 (fun x => [(14, .v (.bool (O x))), (15, .hdl 11), (16, .any), (17, .any), (59, .v (.int .i64 (c x)))]) (fun x o => ((o.set 1 (.irow 52 .i8 (S x))).set 7 (.irow 21 .i32 (Q x))).set 11 (.irow 2 .i64 (W x))) (fun x => x ≤ N) (fun x => N - x) 0 (Nat.zero_le _) ?_ ?_
                 focus
                   show AS.le _ _
                   cbv
                   (repeat' (first | apply And.intro | apply BrB.mk | apply BrP.mk | intro _))
                   (all_goals (subst hA; subst h_c; subst h_fQ; subst h_fR; subst h_fc; subst h_fa; subst h_fs; subst h_fn; subst h_fk; subst h_fm; subst h_fY); all_goals (have f_sw := SW.out; have f_sg := SG.out; have f_sr := SR.out; have f_ss := SS.out; have f_st := ST.out); all_goals (obtain ⟨hN0, nN, nw, ng⟩ := HN.out; have rr := modU r 9 (by decide) (by decide); have tt := modU t 1000 (by decide) (by decide)); all_goals (try simp only [std, stdBin, stdCmp, stdUna, stdIn, ci, beq_iff_eq, bne_iff_ne, beq_eq_false_iff_ne, bne_eq_false_iff_eq, decide_eq_true_eq, decide_eq_false_iff_not, Bool.not_true, Bool.not_false, Bool.not_eq_true', Bool.not_eq_false', Bool.not_not, tn0, tn1, tn2, tn3, pchF, chF, atF, strmF, nearF, clampF, stR, tnMayF, Int.toNat_natCast] at *); all_goals (try simp only [hN0, Int.toNat_natCast] at *); all_goals (try omega))
                   all_goals first | exact True.intro | rfl | (rw [HSS.out, mixL_nil]; done) | (rw [HQ.out, mixL_nil]; done) | (rw [HW.out]; rfl) | (rw [HO.out]; rfl)
                   done)
  all_goals try (intro x hx; cbv; refine BrB.mk (fun gx => ?_) (fun gx => ?_))
  all_goals (repeat' (first | apply And.intro | apply BrB.mk | apply BrP.mk | intro _))
  all_goals try (refine loop_at Nat 157 (fun y => [(20, .any), (21, .any), (157, .v (.int .i64 (c y)))]) (fun _ o => o) (fun y => y ≤ N) (fun y => N - y) 0 (Nat.zero_le _) ?_ ?_
                 focus
                   show AS.le _ _
                   (cbv; (repeat' (first | apply And.intro | apply BrB.mk | apply BrP.mk | intro _)); all_goals (subst hA; subst h_c; subst h_fQ; subst h_fR; subst h_fc; subst h_fa; subst h_fs; subst h_fn; subst h_fk; subst h_fm; subst h_fY); all_goals (have f_sw := SW.out; have f_sg := SG.out; have f_sr := SR.out; have f_ss := SS.out; have f_st := ST.out); all_goals (try simp only [std, stdBin, stdCmp, stdUna, stdIn, ci, beq_iff_eq, bne_iff_ne, beq_eq_false_iff_ne, bne_eq_false_iff_eq, decide_eq_true_eq, decide_eq_false_iff_not, Bool.not_true, Bool.not_false, Bool.not_eq_true', Bool.not_eq_false', Bool.not_not, tn0, tn1, tn2, tn3] at *); (all_goals first | exact True.intro | rfl | exact congrArg (Value.int .i64) (by omega)))
                   done)
  all_goals try (intro y hy; cbv; (repeat' (first | apply And.intro | apply BrB.mk | apply BrP.mk | intro _)))
  all_goals try first | (refine ⟨y + 1, ?_, ?_, ?_⟩) | (refine ⟨x + 1, ?_, ?_, ?_⟩)
  all_goals try (show AS.le _ _; cbv; (repeat' (first | apply And.intro | apply BrB.mk | apply BrP.mk | intro _)))
  (all_goals (subst hA; subst h_c; subst h_fQ; subst h_fR; subst h_fc; subst h_fa; subst h_fs; subst h_fn; subst h_fk; subst h_fm; subst h_fY); all_goals (have f_sw := SW.out; have f_sg := SG.out; have f_sr := SR.out; have f_ss := SS.out; have f_st := ST.out); all_goals (obtain ⟨hN0, nN, nw, ng⟩ := HN.out; have rr := modU r 9 (by decide) (by decide); have tt := modU t 1000 (by decide) (by decide)); all_goals (try simp only [std, stdBin, stdCmp, stdUna, stdIn, ci, beq_iff_eq, bne_iff_ne, beq_eq_false_iff_ne, bne_eq_false_iff_eq, decide_eq_true_eq, decide_eq_false_iff_not, Bool.not_true, Bool.not_false, Bool.not_eq_true', Bool.not_eq_false', Bool.not_not, tn0, tn1, tn2, tn3, pchF, chF, atF, strmF, nearF, clampF, stR, tnMayF, Int.toNat_natCast] at *); all_goals (try simp only [hN0, Int.toNat_natCast] at *); all_goals (try omega))
  all_goals (try first | exact True.intro | contradiction)
  all_goals (try (show Value.bool (yes21 _) = Value.bool (yes21 _); rfl))
  all_goals (have sl : ∀ i, (S i).length = N := (fun i => by rw [HSS.out, mixL_len]); have ql : ∀ i, (Q i).length = N := (fun i => by rw [HQ.out, mixL_len]); have wl : ∀ i, (W i).length = i := (fun i => by rw [HW.out]; simp); have hFe : F = hF w g (IntKind.i64.wrap ((IntKind.u64.wrap r).tmod 9)) s (IntKind.i64.wrap ((IntKind.u64.wrap t).tmod 1000)) := funext HF.out; have fb := hF_bd f_sw.1 f_sg.1 (IntKind.i64.wrap ((IntKind.u64.wrap r).tmod 9)) s (IntKind.i64.wrap ((IntKind.u64.wrap t).tmod 1000)))
  all_goals first
    | (have hxN : x < N := (by omega)
       have e1 : gA w x = if -127 > w.getD x 0 then -127 else w.getD x 0 := gA_pos (Nat.lt_of_lt_of_le hxN (Int.ofNat_le.1 nw))
       have e2 : gA g x = if -127 > g.getD x 0 then -127 else g.getD x 0 := gA_pos (Nat.lt_of_lt_of_le hxN (Int.ofNat_le.1 ng))
       have g1 : ((S x).set x (gA w x)).getD x 0 = gA w x := getD_self (by rw [sl]; exact hxN)
       have g2 : ((Q x).set x (gA g x)).getD x 0 = gA g x := getD_self (by rw [ql]; exact hxN)
       have fx : gA w x - chanceI (gA g x) (IntKind.i64.wrap ((IntKind.u64.wrap r).tmod 9)) (bv (atI s (strmI (IntKind.i64.wrap ((IntKind.u64.wrap t).tmod 1000)) 3 4) (IntKind.u64.wrap (x : Int)))) = F x := (by rw [HF.out]; rfl)
       have fbx := fb x
       rw [← hFe] at fbx
       have ox : O (x + 1) = (O x || (decide (127 < F x) || decide (F x < -127))) := (by rw [HO.out, HO.out]; rfl)
       have wx : W (x + 1) = W x ++ [F x] := (by rw [HW.out, HW.out, List.range_succ, List.map_append]; rfl)
       have lw : x < w.length := Nat.lt_of_lt_of_le hxN (Int.ofNat_le.1 nw)
       have lg : x < g.length := Nat.lt_of_lt_of_le hxN (Int.ofNat_le.1 ng)
       simp only [← e1, ← e2] at *
       first
         | omega
         | (with_reducible apply And.intro; first | (with_reducible exact Int.natCast_nonneg _); first | (with_reducible exact Int.ofNat_lt.2 lw) | (with_reducible exact Int.ofNat_lt.2 lg))
         | (simp only [g1, g2, fx, List.length_set, sl, ql, wl, List.length_singleton] at *
            first
              | omega
              | (exact congrArg _ (Int.natCast_succ _).symm)
              | (show W x ++ [F x] = W (x + 1); exact wx.symm)
              | (rw [HSS.out, HSS.out]; exact mixL_store hxN rfl)
              | (rw [HQ.out, HQ.out]; exact mixL_store hxN rfl)
              | (refine vb ?_; show O (x + 1) = _; rw [ox]; simp_all; done)
              | (refine vb ?_; show O (x + 1) = _; rw [ox]; simp_all; omega)
              | trace_state)
         | trace_state)
    | (have hx1 : x = N := (by omega)
       have h1 : 1 ≤ N ∧ N ≤ 100 := (by omega)
       have sx : S x = PN w N := (by rw [HSS.out, hx1, mixL_all]; rfl)
       have qx : Q x = PN g N := (by rw [HQ.out, hx1, mixL_all]; rfl)
       have wx2 : W x = (List.range N).map F := (by rw [HW.out, hx1])
       have ox2 : O x = ovB F N := (by rw [HO.out, hx1])
       obtain ⟨A1, A2, A3⟩ := by_hand (se := s) f_sw.1 f_sg.1 h1 (ra := IntKind.i64.wrap ((IntKind.u64.wrap r).tmod 9)) (st := IntKind.i64.wrap ((IntKind.u64.wrap t).tmod 1000)) (by omega) (by omega)
       rw [← hFe] at A2 A3
       first
         | (rw [sx, qx]; exact ⟨rmp_room (hand_p f_sw.1 h1), A1⟩)
         | (simp only [sx, qx, A2, A3, wx2, ox2, List.length_map, List.length_range, PN_len] at *
            first
              | omega
              | contradiction
              | (have hyN : y < N := (by omega)
                 have w1 := getD_mapF (f := wtA F (ovB F N)) hyN
                 have w2 := getD_mapF (f := F) hyN
                 simp only [w1, w2, wtA] at *
                 first
                   | omega
                   | contradiction
                   | (cases hOv : ovB F N <;> simp_all; done)
                   | trace_state)
              | (cases hOv : ovB F N <;> simp_all; done)
              | trace_state))
    | trace_state
end Go.Proofs.Ytekokhlldcmjfaa
