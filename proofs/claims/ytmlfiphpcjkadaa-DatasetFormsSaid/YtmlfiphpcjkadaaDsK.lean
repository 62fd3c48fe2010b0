/- Layer 22: the document's own answers. -/
import Derived.Test.YtmlfiphpcjkadaaDsJ
namespace Go.Proofs.Ytmlfiphpcjkadaa
open Go.RowKit
set_option maxRecDepth 1000000
set_option linter.unusedSimpArgs false
set_option linter.unusedVariables false
set_option maxHeartbeats 16000000
set_option cbv.maxSteps 10000000
def u16F (xa : List AV) : List Int := match xa with
  | [.z n] => [IntKind.u8.wrap (n.fdiv (2 ^ min (8 : Int).toNat IntKind.i64.bits)), IntKind.u8.wrap n]
  | _ => []
theorem r16_ok : CtrOk Try.prog 35 (rowC [.int .i64] 5 .u8 u16F) := by
  obtain ⟨G, hG⟩ : ∃ G : List (FuncId × Ctr), G = [] := ⟨_, rfl⟩
  refine fn_ok (ck := true) Try.func35 rfl tt_ok (G := G) (by rw [hG]; exact trivial) mixed (by kernel_rfl) ?_
  intro xa xs h hx hp
  obtain ⟨a0, as0, x0, xs0, rfl, rfl, h0, H1⟩ := svArgs_cons h
  obtain ⟨rfl, rfl⟩ := svArgs_nil H1
  obtain ⟨n, rfl, rfl⟩ := argSV_int h0
  have sn := of_i64 (hx (.v (.int .i64 n)) (by simp))
  have SN := Lib.hid sn
  clear sn
  clear hx hp h h0 H1
  generalize hA : std = A
  subst hG
  generalize h_c : ci = c
  generalize h_fR : u16F = fR
  cbv
  (repeat' (first | apply And.intro | apply BrB.mk | apply BrP.mk | intro _))
  (all_goals (subst hA; subst h_c; subst h_fR); all_goals (have f_sn := SN.out); all_goals (try simp only [std, stdBin, stdCmp, stdUna, stdIn, ci, beq_iff_eq, bne_iff_ne, beq_eq_false_iff_ne, bne_eq_false_iff_eq, decide_eq_true_eq, decide_eq_false_iff_not, Bool.not_true, Bool.not_false, Bool.not_eq_true', Bool.not_eq_false', Bool.not_not, tn0, tn1, tn2, tn3, u16F] at *); all_goals (try omega))
  all_goals first | exact True.intro | omega | rfl | trace_state
theorem u16_put {n : Int} (h : 0 ≤ n ∧ n ≤ 65535) : u16F [.z n] = bU16 n := by
  unfold bU16
  rw [put_two n h]
  show [IntKind.u8.wrap (n.fdiv (2 ^ 8)), IntKind.u8.wrap n] = _
  rw [fdiv_pow, wrap_u8, wrap_u8]
  have : (2 : Int) ^ 8 = 256 := by decide
  rw [this]
  congr 1
  omega
theorem u8_put (v : Int) : [IntKind.u8.wrap v] = bU8 v := by unfold bU8; rw [put_one, wrap_u8]
def smlF (xa : List AV) : List Int := match xa with
  | [.l D] => bDat D D.length
  | _ => []
def smlP (xa : List AV) : Prop := match xa with
  | [.l D] => D.length ≤ 100000
  | _ => False
theorem sml_ok : CtrOk Try.prog 36 (rowP [.sl (.int .i8)] 5 .u8 smlP smlF) := by
  obtain ⟨G, hG⟩ : ∃ G : List (FuncId × Ctr), G = [] := ⟨_, rfl⟩
  refine fn_ok (ck := true) Try.func36 rfl tt_ok (G := G) (by rw [hG]; exact trivial) mixed (by kernel_rfl) ?_
  intro xa xs h hx hp
  obtain ⟨a0, as0, x0, xs0, rfl, rfl, h0, H1⟩ := svArgs_cons h
  obtain ⟨rfl, rfl⟩ := svArgs_nil H1
  obtain ⟨D, rfl, rfl⟩ := argSV_ints h0
  have sD : Fits .i8 D ∧ ci D.length ≤ 9223372036854775807 := svf_ints (hx (.iimm .i8 D) (by simp))
  have SD := Lib.hid sD
  clear sD
  have HP := Lib.hid (hp _ rfl)
  clear hx hp h h0 H1
  generalize hA : std = A
  subst hG
  generalize h_c : ci = c
  generalize h_fP : smlP = fP
  generalize h_fR : smlF = fR
  obtain ⟨S, hS⟩ : ∃ S : Nat → List Int, ∀ j, S j = bDat D j := ⟨_, fun _ => rfl⟩
  have HS := Lib.hid hS
  clear hS
  cbv
  (repeat' (first | apply And.intro | apply BrB.mk | apply BrP.mk | intro _))
  all_goals try (refine loop_nil [.slot 3 5 .u8] Nat 8 (fun j => [(5, .any), (8, .v (.int .i64 (c j)))]) (fun j o => o.set 0 (.irow 5 .u8 (S j))) (fun j => j ≤ D.length) (fun j => D.length - j) 0 (Nat.zero_le _) ?hle ?round)
  case hle =>
    cbv
    (repeat' (first | apply And.intro | apply BrB.mk | apply BrP.mk | intro _))
    (all_goals (subst hA; subst h_c; subst h_fP; subst h_fR); all_goals (have f_sd := SD.out; have f_hp := HP.out); all_goals (try simp only [std, stdBin, stdCmp, stdUna, stdIn, ci, beq_iff_eq, bne_iff_ne, beq_eq_false_iff_ne, bne_eq_false_iff_eq, decide_eq_true_eq, decide_eq_false_iff_not, Bool.not_true, Bool.not_false, Bool.not_eq_true', Bool.not_eq_false', Bool.not_not, tn0, tn1, tn2, tn3] at *); all_goals (try omega))
    all_goals (have s0 := HS.out 0)
    all_goals first
      | exact True.intro
      | (rw [s0]; rfl)
      | rfl
      | trace_state
  case round =>
    intro j hj
    cbv
    (repeat' (first | apply And.intro | apply BrB.mk | apply BrP.mk | intro _))
    all_goals try (refine ⟨j + 1, ?_, ?_, ?_⟩)
    all_goals try (show AS.le _ _; cbv; (repeat' (first | apply And.intro | apply BrB.mk | apply BrP.mk | intro _)))
    (all_goals (subst hA; subst h_c; subst h_fP; subst h_fR); all_goals (have f_sd := SD.out; have f_hp := HP.out); all_goals (try simp only [std, stdBin, stdCmp, stdUna, stdIn, ci, beq_iff_eq, bne_iff_ne, beq_eq_false_iff_ne, bne_eq_false_iff_eq, decide_eq_true_eq, decide_eq_false_iff_not, Bool.not_true, Bool.not_false, Bool.not_eq_true', Bool.not_eq_false', Bool.not_not, tn0, tn1, tn2, tn3, smlF, Int.toNat_natCast] at *); all_goals (try omega))
    all_goals (have s1 := HS.out; have hl1 : (S j).length = j := (by rw [s1, bDat_len]); have hP : D.length ≤ 100000 := f_hp)
    all_goals first
      | exact True.intro
      | omega
      | (simp only [List.length_singleton, hl1]; omega)
      | exact congrArg (Value.int .i64) (by omega)
      | (show _ = S (j + 1); rw [s1, s1, bDat, ← u8_put]; done)
      | (show S j = bDat D D.length; have e : j = D.length := (by omega); rw [s1, e])
      | trace_state
def rencC (e : List AV → Int) (b : List AV → List Int) : Ctr := ⟨[dsTy], fun _ => none, fun xa => .ite (e xa = 0) (.ret (.tup [.hdl 0, .v (.int .i64 0)]) [(0, .irow 5 .u8 (b xa))]) (.ret (.tup [.v (.slice none 0 0), .v (.int .i64 1)]) []), false⟩
theorem r22a {a b c d e : Int} : ((([112, 100, 100, 115] : List Int).length : Int) + (([a, b, c, d, e] : List Int).length : Int)) * ((1 : Nat) : Int) ≤ 140737488355328 ∧ (([112, 100, 100, 115] : List Int).length : Int) + (([a, b, c, d, e] : List Int).length : Int) ≤ 281474976710656 := by simp
theorem r22b (a b c d e n : Int) : (((([112, 100, 100, 115] : List Int) ++ [a, b, c, d, e]).length : Int) + ((u16F [AV.z n]).length : Int)) * ((1 : Nat) : Int) ≤ 140737488355328 ∧ ((([112, 100, 100, 115] : List Int) ++ [a, b, c, d, e]).length : Int) + ((u16F [AV.z n]).length : Int) ≤ 281474976710656 := by simp [u16F]
theorem renc22_ok : CtrOk Try.prog 15 (rencC encEF encBF) := by
  obtain ⟨G, hG⟩ : ∃ G : List (FuncId × Ctr), G = [(17, boolC [dsTy] mayDsF), (35, rowC [.int .i64] 5 .u8 u16F), (36, rowP [.sl (.int .i8)] 5 .u8 smlP smlF)] := ⟨_, rfl⟩
  refine fn_ok (ck := false) Try.func15 rfl tt_ok (G := G) (by rw [hG]; exact ⟨⟨rmayDs_ok, by unfold FnOk; kernel_rfl⟩, ⟨r16_ok, by unfold FnOk; kernel_rfl⟩, ⟨sml_ok, by unfold FnOk; kernel_rfl⟩, trivial⟩) mixed (by kernel_rfl) ?_
  intro xa xs h hx hp
  obtain ⟨a0, as0, x0, xs0, rfl, rfl, h0, H1⟩ := svArgs_cons h
  obtain ⟨rfl, rfl⟩ := svArgs_nil H1
  obtain ⟨dc, dh, dw, de, dk, dx, rfl, rfl⟩ := argSV_ds h0
  have sd : (-9223372036854775808 ≤ dc ∧ dc ≤ 9223372036854775807) ∧ (-9223372036854775808 ≤ dh ∧ dh ≤ 9223372036854775807) ∧ (-9223372036854775808 ≤ dw ∧ dw ≤ 9223372036854775807) ∧ (-9223372036854775808 ≤ de ∧ de ≤ 9223372036854775807) ∧ (-9223372036854775808 ≤ dk ∧ dk ≤ 9223372036854775807) ∧ ((ci dx.ls.length ≤ 9223372036854775807) ∧ Wt (.sl exTy) dx) := svf_ds (hx (.agg [.v (.int .i64 dc), .v (.int .i64 dh), .v (.int .i64 dw), .v (.int .i64 de), .v (.int .i64 dk), .imm exTy dx]) (List.mem_of_getElem? (i := 0) rfl))
  have SD := Lib.hid sd
  clear sd
  clear hx hp h h0 H1
  generalize hA : std = A
  subst hG
  generalize h_c : ci = c
  generalize h_fM : mayDsF = fM
  generalize h_f16 : u16F = f16
  generalize h_fS : smlF = fS
  generalize h_pS : smlP = pS
  generalize h_fE : encEF = fE
  generalize h_fB : encBF = fB
  obtain ⟨T, hT⟩ : ∃ T : Nat → List Int, ∀ i, T i = bHead dc dh dw de dk dx.ls.length ++ bExs dx i := ⟨_, fun _ => rfl⟩
  have HT := Lib.hid hT
  clear hT
  cbv
  (repeat' (first | apply And.intro | apply BrB.mk | apply BrP.mk | intro _))
  (all_goals try (exfalso; (subst hA; subst h_c; subst h_fM; subst h_f16; subst h_fS; subst h_pS; subst h_fE; subst h_fB); (try simp only [std, stdBin, stdCmp, stdUna, stdIn, ci, beq_iff_eq, bne_iff_ne, beq_eq_false_iff_ne, bne_eq_false_iff_eq, decide_eq_true_eq, decide_eq_false_iff_not, Bool.not_true, Bool.not_false, Bool.not_eq_true', Bool.not_eq_false', Bool.not_not, tn0, tn1, tn2, tn3] at *); first | omega | contradiction))
  all_goals try (refine loop_at Nat 41 (fun x => [(6, .any), (37, .any), (41, .v (.int .i64 (c x)))]) (fun x o => o.set 1 (.irow 5 .u8 (T x))) (fun x => x ≤ dx.ls.length) (fun x => dx.ls.length - x) 0 (Nat.zero_le _) ?hle ?round)
  case hle =>
    cbv
    (repeat' (first | apply And.intro | apply BrB.mk | apply BrP.mk | intro _))
    (all_goals (subst hA; subst h_c; subst h_fM; subst h_f16; subst h_fS; subst h_pS; subst h_fE; subst h_fB); all_goals (have f_sd := SD.out); all_goals (try simp only [std, stdBin, stdCmp, stdUna, stdIn, ci, beq_iff_eq, bne_iff_ne, beq_eq_false_iff_ne, bne_eq_false_iff_eq, decide_eq_true_eq, decide_eq_false_iff_not, Bool.not_true, Bool.not_false, Bool.not_eq_true', Bool.not_eq_false', Bool.not_not, tn0, tn1, tn2, tn3, mayDsF] at *); all_goals (try omega))
    all_goals (have t0 := HT.out 0)
    all_goals first
      | exact True.intro
      | with_reducible rfl
      | (have hm : mayDs dc dh dw de dk dx = true := (by assumption)
         have hsm := (bDs_small hm).1
         show (bMark ++ [IntKind.u8.wrap dc, IntKind.u8.wrap dh, IntKind.u8.wrap dw, IntKind.u8.wrap de, IntKind.u8.wrap dk]) ++ u16F [.z (dx.ls.length : Int)] = T 0
         rw [t0, u16_put (by omega), bExs, List.append_nil]
         unfold bHead b3
         rw [← u8_put dc, ← u8_put dh, ← u8_put dw, ← u8_put de, ← u8_put dk]
         simp only [List.append_assoc, List.cons_append, List.nil_append] <;> rfl)
      | rfl
      | trace_state
  case round =>
    intro x hx
    cbv
    (repeat' (first | apply And.intro | apply BrB.mk | apply BrP.mk | intro _))
    all_goals try (refine ⟨x + 1, ?_, ?_, ?_⟩)
    all_goals try (show AS.le _ _; cbv; (repeat' (first | apply And.intro | apply BrB.mk | apply BrP.mk | intro _)))
    (all_goals (subst hA; subst h_c; subst h_fM; subst h_f16; subst h_fS; subst h_pS; subst h_fE; subst h_fB); all_goals (have f_sd := SD.out); all_goals (try simp only [std, stdBin, stdCmp, stdUna, stdIn, ci, beq_iff_eq, bne_iff_ne, beq_eq_false_iff_ne, bne_eq_false_iff_eq, decide_eq_true_eq, decide_eq_false_iff_not, Bool.not_true, Bool.not_false, Bool.not_eq_true', Bool.not_eq_false', Bool.not_not, tn0, tn1, tn2, tn3, mayDsF, encE, encEF, encBF, Int.toNat_natCast] at *); all_goals (try omega))
    all_goals (have t1 := HT.out; have hm : mayDs dc dh dw de dk dx = true := (by assumption); have hsm := bDs_small hm; have hTl : ∀ i : Nat, i ≤ dx.ls.length → (T i).length ≤ 131200 := fun i hi => (by rw [t1]; have := (hsm.2 i hi).1; simp only [bHead, List.length_append, bU8_len, bU16_len, b3]; simp [bMark]; omega))
    all_goals first
      | exact True.intro
      | (have hx1 : x < dx.ls.length := (by omega)
         have hT1 := hTl x hx
         have hD := (hsm.2 x hx).2 hx1
         have hdl : (exDat dx x).length = ((dx.at x).fld 0).ints.length := rfl
         have hsml : (smlF [AV.l ((dx.at x).fld 0).ints]).length = ((dx.at x).fld 0).ints.length := bDat_len _ _
         first
           | omega
           | exact (show ((dx.at x).fld 0).ints.length ≤ 100000 from by omega)
           | (refine ⟨?_, ?_⟩ <;> simp only [List.length_append, List.length_singleton, hsml] <;> omega)
           | (show (T x ++ [_]) ++ bDat (exDat dx x) (exDat dx x).length = T (x + 1); rw [t1, t1, bExs, u8_put]; simp only [List.append_assoc] <;> rfl)
           | (rw [w64 (by omega) (by omega)]; exact congrArg (Value.int .i64) (by omega)))
      | (exfalso; simp_all; done)
      | (have e : x = dx.ls.length := (by omega); subst e; rw [t1]; rfl)
      | trace_state
  (all_goals (subst hA; subst h_c; subst h_fM; subst h_f16; subst h_fS; subst h_pS; subst h_fE; subst h_fB); all_goals (have f_sd := SD.out); all_goals (try simp only [std, stdBin, stdCmp, stdUna, stdIn, ci, beq_iff_eq, bne_iff_ne, beq_eq_false_iff_ne, bne_eq_false_iff_eq, decide_eq_true_eq, decide_eq_false_iff_not, Bool.not_true, Bool.not_false, Bool.not_eq_true', Bool.not_eq_false', Bool.not_not, tn0, tn1, tn2, tn3, mayDsF, encE, encEF, encBF] at *); all_goals (try omega))
  all_goals first
    | exact True.intro
    | (refine ⟨?_, ?_⟩ <;> simp [u16F] <;> done)
    | (have hm : mayDs dc dh dw de dk dx = false := (by assumption)
       have hE : (if mayDs dc dh dw de dk dx = true then (0 : Int) else 1) = 0 := (by assumption)
       rw [hm] at hE
       exact absurd hE (by simp))
    | trace_state
theorem ex_len22 {x : Dat} (h : Wt (.sl exTy) x) {i : Nat} (hi : i < x.ls.length) : (((x.at i).fld 0).ints.length : Int) ≤ 9223372036854775807 := by
  simp only [Wt] at h
  obtain ⟨ds, rfl, _, h⟩ := h
  have hi' : i < ds.length := hi
  have h1 : Wt exTy ((Dat.list ds).at i) := by
    have : (Dat.list ds).at i = ds[i] := by
      show ds.getD i (.int 0) = _
      rw [List.getD_eq_getElem?_getD, List.getElem?_eq_getElem hi']
      rfl
    rw [this]
    exact h _ (List.getElem_mem _)
  simp only [exTy, Wt, WtL] at h1
  obtain ⟨q, hq, u, us, rfl, ⟨es, rfl, hl, he⟩, _⟩ := h1
  rw [hq]
  have e : ((Dat.agg (Dat.list es :: us)).fld 0).ints.length = es.length := by
    show (es.map Dat.z).length = es.length
    simp
  rw [e]
  unfold maxLen at hl
  omega
theorem rsameDs_ok : CtrOk Try.prog 19 (boolC [dsTy, dsTy] sameDsF) := by
  obtain ⟨G, hG⟩ : ∃ G : List (FuncId × Ctr), G = [] := ⟨_, rfl⟩
  refine fn_ok (ck := true) Try.func19 rfl tt_ok (G := G) (by rw [hG]; exact trivial) mixed (by kernel_rfl) ?_
  intro xa xs h hx hp
  obtain ⟨a0, as0, x0, xs0, rfl, rfl, h0, H1⟩ := svArgs_cons h
  obtain ⟨a1, as1, x1, xs1, rfl, rfl, h1, H2⟩ := svArgs_cons H1
  obtain ⟨rfl, rfl⟩ := svArgs_nil H2
  obtain ⟨ac, ah, aw, ae, ak, ax, rfl, rfl⟩ := argSV_ds h0
  obtain ⟨bc, bh, bw, be, bk, bx, rfl, rfl⟩ := argSV_ds h1
  have sa : (-9223372036854775808 ≤ ac ∧ ac ≤ 9223372036854775807) ∧ (-9223372036854775808 ≤ ah ∧ ah ≤ 9223372036854775807) ∧ (-9223372036854775808 ≤ aw ∧ aw ≤ 9223372036854775807) ∧ (-9223372036854775808 ≤ ae ∧ ae ≤ 9223372036854775807) ∧ (-9223372036854775808 ≤ ak ∧ ak ≤ 9223372036854775807) ∧ ((ci ax.ls.length ≤ 9223372036854775807) ∧ Wt (.sl exTy) ax) := svf_ds (hx (.agg [.v (.int .i64 ac), .v (.int .i64 ah), .v (.int .i64 aw), .v (.int .i64 ae), .v (.int .i64 ak), .imm exTy ax]) (List.mem_of_getElem? (i := 0) rfl))
  have sb : (-9223372036854775808 ≤ bc ∧ bc ≤ 9223372036854775807) ∧ (-9223372036854775808 ≤ bh ∧ bh ≤ 9223372036854775807) ∧ (-9223372036854775808 ≤ bw ∧ bw ≤ 9223372036854775807) ∧ (-9223372036854775808 ≤ be ∧ be ≤ 9223372036854775807) ∧ (-9223372036854775808 ≤ bk ∧ bk ≤ 9223372036854775807) ∧ ((ci bx.ls.length ≤ 9223372036854775807) ∧ Wt (.sl exTy) bx) := svf_ds (hx (.agg [.v (.int .i64 bc), .v (.int .i64 bh), .v (.int .i64 bw), .v (.int .i64 be), .v (.int .i64 bk), .imm exTy bx]) (List.mem_of_getElem? (i := 1) rfl))
  have SA := Lib.hid sa
  clear sa
  have SB := Lib.hid sb
  clear sb
  clear hx hp h h0 H1 h1 H2
  generalize hA : std = A
  subst hG
  generalize h_c : ci = c
  generalize h_fR : sameDsF = fR
  cbv
  (repeat' (first | apply And.intro | apply BrB.mk | apply BrP.mk | intro _))
  all_goals try (refine loop_at Nat 40 (fun x => [(4, .any), (5, .any), (6, .any), (7, .any), (8, .any), (40, .v (.int .i64 (c x)))]) (fun _ o => o) (fun x => x ≤ ax.ls.length ∧ allTo (fun i => sameEx (ax.at i) (bx.at i)) x = true) (fun x => ax.ls.length - x) 0 ⟨Nat.zero_le _, rfl⟩ ?_ ?_
                 focus
                   show AS.le _ _
                   (cbv; (repeat' (first | apply And.intro | apply BrB.mk | apply BrP.mk | intro _)); all_goals (subst hA; subst h_c; subst h_fR); all_goals (have f_sa := SA.out; have f_sb := SB.out); all_goals (try simp only [std, stdBin, stdCmp, stdUna, stdIn, ci, beq_iff_eq, bne_iff_ne, beq_eq_false_iff_ne, bne_eq_false_iff_eq, decide_eq_true_eq, decide_eq_false_iff_not, Bool.not_true, Bool.not_false, Bool.not_eq_true', Bool.not_eq_false', Bool.not_not, tn0, tn1, tn2, tn3] at *); (all_goals first | exact True.intro | rfl | exact congrArg (Value.int .i64) (by omega)))
                   done)
  all_goals try (intro x hx; cbv; refine BrB.mk (fun gx => ?_) (fun gx => ?_))
  all_goals (repeat' (first | apply And.intro | apply BrB.mk | apply BrP.mk | intro _))
  all_goals try (refine loop_at Nat 67 (fun y => [(4, .any), (8, .any), (67, .v (.int .i64 (c y)))]) (fun _ o => o) (fun y => y ≤ (exDat ax x).length ∧ ∀ j, j < y → (exDat ax x).getD j 0 = (exDat bx x).getD j 0) (fun y => (exDat ax x).length - y) 0 ⟨Nat.zero_le _, fun j hj => absurd hj (Nat.not_lt_zero _)⟩ ?_ ?_
                 focus
                   show AS.le _ _
                   (cbv; (repeat' (first | apply And.intro | apply BrB.mk | apply BrP.mk | intro _)); all_goals (subst hA; subst h_c; subst h_fR); all_goals (have f_sa := SA.out; have f_sb := SB.out); all_goals (try simp only [std, stdBin, stdCmp, stdUna, stdIn, ci, beq_iff_eq, bne_iff_ne, beq_eq_false_iff_ne, bne_eq_false_iff_eq, decide_eq_true_eq, decide_eq_false_iff_not, Bool.not_true, Bool.not_false, Bool.not_eq_true', Bool.not_eq_false', Bool.not_not, tn0, tn1, tn2, tn3] at *); (all_goals first | exact True.intro | rfl | exact congrArg (Value.int .i64) (by omega)))
                   done)
  all_goals try (intro y hy; cbv; refine BrB.mk (fun gy => ?_) (fun gy => ?_))
  all_goals try (repeat' (first | apply And.intro | apply BrB.mk | apply BrP.mk | intro _))
  all_goals try (have _ : _ = true := gy; refine ⟨y + 1, ?_, ?_, ?_⟩)
  all_goals try (have _ : _ = false := gy; refine ⟨x + 1, ?_, ?_, ?_⟩)
  all_goals try (show AS.le _ _; cbv; (repeat' (first | apply And.intro | apply BrB.mk | apply BrP.mk | intro _)))
  (all_goals (subst hA; subst h_c; subst h_fR); all_goals (have f_sa := SA.out; have f_sb := SB.out); all_goals (try simp only [std, stdBin, stdCmp, stdUna, stdIn, ci, beq_iff_eq, bne_iff_ne, beq_eq_false_iff_ne, bne_eq_false_iff_eq, decide_eq_true_eq, decide_eq_false_iff_not, Bool.not_true, Bool.not_false, Bool.not_eq_true', Bool.not_eq_false', Bool.not_not, tn0, tn1, tn2, tn3, sameDsF, Int.toNat_natCast] at *); all_goals (try omega))
  all_goals (have hQ : ∀ q, (exDat ax q).length = ((ax.at q).fld 0).ints.length := fun _ => rfl; have hQ2 : ∀ q, (exDat bx q).length = ((bx.at q).fld 0).ints.length := fun _ => rfl)
  all_goals first
    | exact True.intro
    | exact congrArg (Value.int .i64) (Int.natCast_succ _).symm
    | (have q : (ac == bc && (ah == bh && (aw == bw && true))) = false := (by assumption)
       refine vb ?_
       unfold sameDs
       rw [decide_eq_false (by rintro ⟨rfl, rfl, rfl, _⟩; simp at q), Bool.false_and]
       done)
    | (have q1 : ((ax.at x).fld 0).ints.getD y 0 ≠ ((bx.at x).fld 0).ints.getD y 0 := (by assumption)
       have hs : sameEx (ax.at x) (bx.at x) = false := (by unfold sameEx; rw [ne_at q1, Bool.and_false])
       refine vb ?_
       unfold sameDs
       rw [allTo_false (x := x) (by omega) hs, Bool.and_false]
       done)
    | (have q1 : (((ax.at x).fld 0).ints.length : Int) ≠ (((bx.at x).fld 0).ints.length : Int) := (by assumption)
       have hs : sameEx (ax.at x) (bx.at x) = false := (by unfold sameEx; rw [ne_len (by omega), Bool.and_false])
       refine vb ?_
       unfold sameDs
       rw [allTo_false (x := x) (by omega) hs, Bool.and_false]
       done)
    | (have q1 : ((ax.at x).fld 1).z ≠ ((bx.at x).fld 1).z := (by assumption)
       have hs : sameEx (ax.at x) (bx.at x) = false := (by unfold sameEx; rw [decide_eq_false q1, Bool.false_and])
       refine vb ?_
       unfold sameDs
       rw [allTo_false (x := x) (by omega) hs, Bool.and_false]
       done)
    | (have hq := hQ x; omega)
    | (have hw : Wt (.sl exTy) ax := f_sa.2.2.2.2.2.2; have hle := ex_len22 hw (i := x) (by omega); omega)
    | (have q1 : ((ax.at x).fld 0).ints.getD y 0 = ((bx.at x).fld 0).ints.getD y 0 := (by assumption)
       have hq := hQ x
       refine ⟨by omega, fun j hj => ?_⟩
       by_cases e : j = y
       · subst e; exact q1
       · exact hy.2 j (by omega))
    | (have hl : (((ax.at x).fld 0).ints.length : Int) = (((bx.at x).fld 0).ints.length : Int) := (by assumption)
       have hz : ((ax.at x).fld 1).z = ((bx.at x).fld 1).z := (by assumption)
       have hq := hQ x
       have he : ((ax.at x).fld 0).ints = ((bx.at x).fld 0).ints := getD_ext (by omega) (fun j hj => hy.2 j (by omega))
       have hs : sameEx (ax.at x) (bx.at x) = true := (by unfold sameEx; rw [he, hz]; simp)
       refine ⟨by omega, ?_⟩
       simp only [allTo, hx.2, hs, Bool.and_self])
    | (refine vb ?_
       have e : x = ax.ls.length := (by omega)
       have q : (ac == bc && (ah == bh && (aw == bw && true))) = true := (by assumption)
       simp only [Bool.and_eq_true, beq_iff_eq] at q
       unfold sameDs
       rw [← e, hx.2, decide_eq_true (show ac = bc ∧ ah = bh ∧ aw = bw ∧ ae = be ∧ ak = bk ∧ x = bx.ls.length from ⟨q.1, q.2.1, q.2.2.1, by omega, by omega, by omega⟩)]; rfl)
    | (refine vb ?_
       unfold sameDs
       rw [decide_eq_false (by omega), Bool.false_and]
       done)
    | trace_state
/-! ### The law -/
theorem forms22_ok : CtrOk Try.prog 3 (boolC [dsTy, dsTy] yes) := by
  obtain ⟨G, hG⟩ : ∃ G : List (FuncId × Ctr), G = [(12, boolC [dsTy] lightF), (13, boolC [] yes), (16, boolC [dsTy] mayDsF), (17, boolC [dsTy] mayDsF), (18, boolC [dsTy, dsTy] sameDsF), (19, boolC [dsTy, dsTy] sameDsF), (15, rencC encEF encBF)] := ⟨_, rfl⟩
  refine fn_inl3 (ck := true) rfl [(14, encC0 encEF encB0)] ⟨⟨by unfold FnOk; kernel_rfl, enc0_ok⟩, trivial⟩ [] trivial Try.func3 rfl tt_ok (G := G) (by rw [hG]; exact ⟨⟨light22_ok, by unfold FnOk; kernel_rfl⟩, ⟨awake22_ok, by unfold FnOk; kernel_rfl⟩, ⟨mayDs_ok, by unfold FnOk; kernel_rfl⟩, ⟨rmayDs_ok, by unfold FnOk; kernel_rfl⟩, ⟨sameDs_ok, by unfold FnOk; kernel_rfl⟩, ⟨rsameDs_ok, by unfold FnOk; kernel_rfl⟩, ⟨renc22_ok, by unfold FnOk; kernel_rfl⟩, trivial⟩) mixed (by kernel_rfl) ?_
  intro xa xs h hx hp
  obtain ⟨a0, as0, x0, xs0, rfl, rfl, h0, H1⟩ := svArgs_cons h
  obtain ⟨a1, as1, x1, xs1, rfl, rfl, h1, H2⟩ := svArgs_cons H1
  obtain ⟨rfl, rfl⟩ := svArgs_nil H2
  obtain ⟨dc, dh, dw, de, dk, dx, rfl, rfl⟩ := argSV_ds h0
  obtain ⟨qc, qh, qw, qe, qk, qx, rfl, rfl⟩ := argSV_ds h1
  have sd : (-9223372036854775808 ≤ dc ∧ dc ≤ 9223372036854775807) ∧ (-9223372036854775808 ≤ dh ∧ dh ≤ 9223372036854775807) ∧ (-9223372036854775808 ≤ dw ∧ dw ≤ 9223372036854775807) ∧ (-9223372036854775808 ≤ de ∧ de ≤ 9223372036854775807) ∧ (-9223372036854775808 ≤ dk ∧ dk ≤ 9223372036854775807) ∧ ((ci dx.ls.length ≤ 9223372036854775807) ∧ Wt (.sl exTy) dx) := svf_ds (hx (.agg [.v (.int .i64 dc), .v (.int .i64 dh), .v (.int .i64 dw), .v (.int .i64 de), .v (.int .i64 dk), .imm exTy dx]) (List.mem_of_getElem? (i := 0) rfl))
  have sq : (-9223372036854775808 ≤ qc ∧ qc ≤ 9223372036854775807) ∧ (-9223372036854775808 ≤ qh ∧ qh ≤ 9223372036854775807) ∧ (-9223372036854775808 ≤ qw ∧ qw ≤ 9223372036854775807) ∧ (-9223372036854775808 ≤ qe ∧ qe ≤ 9223372036854775807) ∧ (-9223372036854775808 ≤ qk ∧ qk ≤ 9223372036854775807) ∧ ((ci qx.ls.length ≤ 9223372036854775807) ∧ Wt (.sl exTy) qx) := svf_ds (hx (.agg [.v (.int .i64 qc), .v (.int .i64 qh), .v (.int .i64 qw), .v (.int .i64 qe), .v (.int .i64 qk), .imm exTy qx]) (List.mem_of_getElem? (i := 1) rfl))
  have SD := Lib.hid sd
  clear sd
  have SQ := Lib.hid sq
  clear sq
  clear hx hp h h0 H1 h1 H2
  generalize hA : std = A
  subst hG
  generalize h_c : ci = c
  generalize h_fl : lightF = fl
  generalize h_fm : mayDsF = fm
  generalize h_fsd : sameDsF = fsd
  generalize h_uE : encEF = uE
  generalize h_uB : encB0 = uB
  generalize h_vB : encBF = vB
  generalize h_fY : yes = fY
  cbv
  (repeat' (first | apply And.intro | apply BrB.mk | apply BrP.mk | intro _))
  (all_goals (subst hA; subst h_c; subst h_fl; subst h_fm; subst h_fsd; subst h_uE; subst h_uB; subst h_vB; subst h_fY); all_goals (have f_sd := SD.out; have f_sq := SQ.out); all_goals (try simp only [std, stdBin, stdCmp, stdUna, stdIn, ci, beq_iff_eq, bne_iff_ne, beq_eq_false_iff_ne, bne_eq_false_iff_eq, decide_eq_true_eq, decide_eq_false_iff_not, Bool.not_true, Bool.not_false, Bool.not_eq_true', Bool.not_eq_false', Bool.not_not, tn0, tn1, tn2, tn3, lightF, mayDsF, sameDsF, encEF, encBF, encE, yes] at *); all_goals (try omega))
  all_goals first
    | exact True.intro
    | with_reducible rfl
    | (have hm : mayDs dc dh dw de dk dx = true := enc_may (by assumption)
       have z : (strOfNums (encB0 _)).toList ≠ (strOfNums (bDs dc dh dw de dk dx)).toList := (by assumption)
       rw [L_enc_t hm] at z
       exact absurd rfl z)
    | (have hE : ¬ (if mayDs dc dh dw de dk dx = true then (0 : Int) else 1) = 0 := (by assumption)
       have hm : mayDs dc dh dw de dk dx = false := (by
         cases hb : mayDs dc dh dw de dk dx with
         | false => rfl
         | true => rw [hb] at hE; exact absurd rfl hE)
       have z : (strOfNums (encB0 _)).toList ≠ (strOfNums []).toList := (by assumption)
       rw [L_enc_f hm] at z
       exact absurd rfl z)
    | contradiction
    | (exfalso; simp_all; done)
    | trace_state
end Go.Proofs.Ytmlfiphpcjkadaa
