/- Layer 22: what is written is read as it was. -/
import Derived.Test.YtmlfiphpcjkadaaDsH
namespace Go.Proofs.Ytmlfiphpcjkadaa
open Go.RowKit
set_option maxRecDepth 1000000
set_option linter.unusedSimpArgs false
set_option linter.unusedVariables false
set_option maxHeartbeats 16000000
set_option cbv.maxSteps 10000000
/-- A weaker word of the same results. -/
theorem fok_weak {P : Program} {f : FuncId} {c c' : FCtr} (h : FOk P f c) (ht : c'.tys = c.tys) (hp : c'.pre = c.pre) (hr : ∀ xa, (c.res xa).pick.2 = [] ∧ (c'.res xa).pick.2 = [] ∧ ∀ g r v, (c.res xa).pick.1.Is g r v → (c'.res xa).pick.1.Is g r v) : FOk P f c' := by
  intro xa w g vs hg ha hpre
  rw [ht] at ha
  rw [hp] at hpre
  refine (h xa w g vs hg ha hpre).mono fun e w' ⟨v, g', he, hv⟩ => ⟨v, g', he, ?_⟩
  obtain ⟨h1, h2, h3⟩ := hr xa
  obtain ⟨a1, a2, a3, a4, a5⟩ := hv
  refine ⟨a1, a2, a3, ⟨a4.below, (by have q := h3 _ _ _ a4.sv; rw [h1] at q; rw [h2]; exact q), ?_, ?_⟩, ?_⟩
  · intro k o hk
    rw [h2] at hk
    simp at hk
  · intro j k o p a b c hj
    rw [h2] at hj
    simp at hj
  · intro k o u b hk
    rw [h2] at hk
    simp at hk
def encB0 (xa : List AV) : List Int := if encEF xa = 0 then encBF xa else []
def encC0 (e : List AV → Int) (b : List AV → List Int) : FCtr := ⟨[dsTy], fun _ => none, fun xa => .ret (.tup [.iimm .u8 (b xa), .v (.int .i64 (e xa))]) [], true⟩
theorem enc0_ok : FOk Try.prog 14 (encC0 encEF encB0) := by
  refine fok_weak enc22_ok rfl rfl fun xa => ?_
  have e01 : encEF xa = 0 ∨ encEF xa = 1 := by
    unfold encEF
    split
    · unfold encE; split <;> simp
    · exact .inr rfl
  by_cases h : encEF xa = 0
  · have e1 : ((encC encEF encBF).res xa).pick = (.tup [.iimm .u8 (encBF xa), .v (.int .i64 0)], []) := by simp [encC, Out.pick, h]
    have e2 : ((encC0 encEF encB0).res xa).pick = (.tup [.iimm .u8 (encBF xa), .v (.int .i64 0)], []) := by simp [encC0, encB0, Out.pick, h]
    rw [e1, e2]
    exact ⟨rfl, rfl, fun g r v hv => hv⟩
  · have h1 : encEF xa = 1 := e01.resolve_left h
    have e1 : ((encC encEF encBF).res xa).pick = (.tup [.v (.slice none 0 0), .v (.int .i64 1)], []) := by simp [encC, Out.pick, h1]
    have e2 : ((encC0 encEF encB0).res xa).pick = (.tup [.iimm .u8 [], .v (.int .i64 1)], []) := by simp [encC0, encB0, Out.pick, h1]
    rw [e1, e2]
    refine ⟨rfl, rfl, fun g r v hv => ?_⟩
    simp only [SV.Is, LsIs] at hv ⊢
    obtain ⟨cs, h2, u, us, h3, ⟨rfl, _⟩, h4⟩ := hv
    exact ⟨cs, h2, _, us, h3, ⟨holds_nil g, (fun x hx => by cases hx), Nat.zero_le _⟩, h4⟩
def decV0 (i : Nat) (xa : List AV) : Int := if decEF xa = 0 then decVF i xa else 0
def decX0 (xa : List AV) : Dat := if decEF xa = 0 then decXF xa else .list []
def decC0 (p : List AV → Prop) (e : List AV → Int) (v : Nat → List AV → Int) (x : List AV → Dat) : FCtr := ⟨[.sl (.int .u8)], fun xa => some (p xa), fun xa =>
  .ret (.tup [.agg [.v (.int .i64 (v 0 xa)), .v (.int .i64 (v 1 xa)), .v (.int .i64 (v 2 xa)), .v (.int .i64 (v 3 xa)), .v (.int .i64 (v 4 xa)), .imm exTy (x xa)], .v (.int .i64 (e xa))]) [], true⟩
theorem dec0_ok : FOk Try.prog 20 (decC0 decP decEF decV0 decX0) := by
  refine fok_weak dec22_ok rfl rfl fun xa => ?_
  by_cases h : decEF xa = 0
  · have e1 : ((decC decP decEF decVF decXF).res xa).pick = (.tup [.agg [.v (.int .i64 (decVF 0 xa)), .v (.int .i64 (decVF 1 xa)), .v (.int .i64 (decVF 2 xa)), .v (.int .i64 (decVF 3 xa)), .v (.int .i64 (decVF 4 xa)), .imm exTy (decXF xa)], .v (.int .i64 0)], []) := by simp [decC, Out.pick, h]
    have e2 : ((decC0 decP decEF decV0 decX0).res xa).pick = (.tup [.agg [.v (.int .i64 (decVF 0 xa)), .v (.int .i64 (decVF 1 xa)), .v (.int .i64 (decVF 2 xa)), .v (.int .i64 (decVF 3 xa)), .v (.int .i64 (decVF 4 xa)), .imm exTy (decXF xa)], .v (.int .i64 0)], []) := by simp [decC0, decV0, decX0, Out.pick, h]
    rw [e1, e2]
    exact ⟨rfl, rfl, fun g r v hv => hv⟩
  · have e1 : ((decC decP decEF decVF decXF).res xa).pick = (.tup [.agg [.v (.int .i64 0), .v (.int .i64 0), .v (.int .i64 0), .v (.int .i64 0), .v (.int .i64 0), .v (.slice none 0 0)], .v (.int .i64 (decEF xa))], []) := by simp [decC, Out.pick, h]
    have e2 : ((decC0 decP decEF decV0 decX0).res xa).pick = (.tup [.agg [.v (.int .i64 0), .v (.int .i64 0), .v (.int .i64 0), .v (.int .i64 0), .v (.int .i64 0), .imm exTy (.list [])], .v (.int .i64 (decEF xa))], []) := by simp [decC0, decV0, decX0, Out.pick, h]
    rw [e1, e2]
    refine ⟨rfl, rfl, fun g r v hv => ?_⟩
    simp only [SV.Is, LsIs] at hv ⊢
    obtain ⟨cs, h2, u, us, h3, ⟨ds, h4, u1, us1, h5, q1, u2, us2, h6, q2, u3, us3, h7, q3, u4, us4, h8, q4, u5, us5, h9, q5, u6, us6, h10, ⟨rfl, _⟩, h11⟩, h12⟩ := hv
    refine ⟨cs, h2, u, us, h3, ⟨ds, h4, u1, us1, h5, q1, u2, us2, h6, q2, u3, us3, h7, q3, u4, us4, h8, q4, u5, us5, h9, q5, _, us6, h10, ?_, h11⟩, h12⟩
    simp only [Rd]
    exact ⟨none, 0, [], rfl, rfl, Nat.le_refl _, Nat.zero_le _, .inl rfl⟩
theorem dec_nil : decE [] = 4 := by kernel_rfl
theorem bDs_le {c h w e k : Int} {x : Dat} (hm : mayDs c h w e k x = true) : 12 ≤ (bDs c h w e k x).length ∧ ((bDs c h w e k x).length : Int) ≤ 140737488355000 := by
  have h1 := bDs_len hm
  obtain ⟨_, h3, h4, h5, h6⟩ := ds_nums hm
  have h7 : 1 * (1 + 1) ≤ (x.ls.length : Int) * (1 + c * h * w) := Int.mul_le_mul h4.1 (by omega) (by decide) (by omega)
  generalize (x.ls.length : Int) * (1 + c * h * w) = q at *
  omega
theorem L_enc_t {c h w e k : Int} {x : Dat} (hm : mayDs c h w e k x = true) : encB0 [AV.st [AV.st [AV.z c, AV.z h, AV.z w], AV.z e, AV.z k, AV.d x]] = bDs c h w e k x := by
  unfold encB0
  rw [if_pos (show encEF [AV.st [AV.st [AV.z c, AV.z h, AV.z w], AV.z e, AV.z k, AV.d x]] = 0 from if_pos hm)]
  rfl
theorem L_enc_f {c h w e k : Int} {x : Dat} (hm : mayDs c h w e k x = false) : encB0 [AV.st [AV.st [AV.z c, AV.z h, AV.z w], AV.z e, AV.z k, AV.d x]] = [] := by
  unfold encB0
  rw [if_neg (show ¬ encEF [AV.st [AV.st [AV.z c, AV.z h, AV.z w], AV.z e, AV.z k, AV.d x]] = 0 from by show ¬ encE c h w e k x = 0; unfold encE; rw [hm]; simp)]
theorem L_v {b : List Int} (hb : decE b = 0) : decV0 0 [AV.l b] = dV b 0 ∧ decV0 1 [AV.l b] = dV b 1 ∧ decV0 2 [AV.l b] = dV b 2 ∧ decV0 3 [AV.l b] = dE b ∧ decV0 4 [AV.l b] = dV b 4 ∧ decX0 [AV.l b] = dX' b (dN b).toNat := by
  have h0 : decEF [AV.l b] = 0 := hb
  unfold decV0 decX0
  simp only [h0, if_true]
  exact ⟨rfl, rfl, rfl, rfl, rfl, rfl⟩
theorem L_same {c h w e k : Int} {x : Dat} (hm : mayDs c h w e k x = true) (hw : Wt (.sl exTy) x) : sameDs (decV0 0 [AV.l (bDs c h w e k x)]) (decV0 1 [AV.l (bDs c h w e k x)]) (decV0 2 [AV.l (bDs c h w e k x)]) (decV0 3 [AV.l (bDs c h w e k x)]) (decV0 4 [AV.l (bDs c h w e k x)]) (decX0 [AV.l (bDs c h w e k x)]) c h w e k x = true := by
  obtain ⟨h1, h2⟩ := write_read hm hw
  obtain ⟨a0, a1, a2, a3, a4, a5⟩ := L_v h1
  rw [a0, a1, a2, a3, a4, a5]
  exact h2
theorem L_read {b : List Int} (hb : decE b = 0) (hy : Byt b) : mayDs (decV0 0 [AV.l b]) (decV0 1 [AV.l b]) (decV0 2 [AV.l b]) (decV0 3 [AV.l b]) (decV0 4 [AV.l b]) (decX0 [AV.l b]) = true ∧
    encB0 [AV.st [AV.st [AV.z (decV0 0 [AV.l b]), AV.z (decV0 1 [AV.l b]), AV.z (decV0 2 [AV.l b])], AV.z (decV0 3 [AV.l b]), AV.z (decV0 4 [AV.l b]), AV.d (decX0 [AV.l b])]] = b := by
  obtain ⟨a0, a1, a2, a3, a4, a5⟩ := L_v hb
  have hm := read_may hb
  rw [a0, a1, a2, a3, a4, a5]
  exact ⟨hm, (L_enc_t hm).trans (read_back hy hb)⟩
theorem L_bad {b : List Int} (hb : ¬ decE b = 0) : decX0 [AV.l b] = .list [] := by
  unfold decX0
  rw [if_neg (show ¬ decEF [AV.l b] = 0 from hb)]
theorem back22_ok : CtrOk Try.prog 5 (boolC [dsTy, .sl (.int .u8)] yes) := by
  obtain ⟨G, hG⟩ : ∃ G : List (FuncId × Ctr), G = [(12, boolC [dsTy] lightF), (13, boolC [] yes), (16, boolC [dsTy] mayDsF), (18, boolC [dsTy, dsTy] sameDsF)] := ⟨_, rfl⟩
  refine fn_inl3 (ck := true) rfl [(14, encC0 encEF encB0), (20, decC0 decP decEF decV0 decX0)] ⟨⟨by unfold FnOk; kernel_rfl, enc0_ok⟩, ⟨by unfold FnOk; kernel_rfl, dec0_ok⟩, trivial⟩ [] trivial Try.func5 rfl tt_ok (G := G) (by rw [hG]; exact ⟨⟨light22_ok, by unfold FnOk; kernel_rfl⟩, ⟨awake22_ok, by unfold FnOk; kernel_rfl⟩, ⟨mayDs_ok, by unfold FnOk; kernel_rfl⟩, ⟨sameDs_ok, by unfold FnOk; kernel_rfl⟩, trivial⟩) mixed (by kernel_rfl) ?_
  intro xa xs h hx hp
  obtain ⟨a0, as0, x0, xs0, rfl, rfl, h0, H1⟩ := svArgs_cons h
  obtain ⟨a1, as1, x1, xs1, rfl, rfl, h1, H2⟩ := svArgs_cons H1
  obtain ⟨rfl, rfl⟩ := svArgs_nil H2
  obtain ⟨dc, dh, dw, de, dk, dx, rfl, rfl⟩ := argSV_ds h0
  obtain ⟨b, rfl, rfl⟩ := argSV_ints h1
  have sd : (-9223372036854775808 ≤ dc ∧ dc ≤ 9223372036854775807) ∧ (-9223372036854775808 ≤ dh ∧ dh ≤ 9223372036854775807) ∧ (-9223372036854775808 ≤ dw ∧ dw ≤ 9223372036854775807) ∧ (-9223372036854775808 ≤ de ∧ de ≤ 9223372036854775807) ∧ (-9223372036854775808 ≤ dk ∧ dk ≤ 9223372036854775807) ∧ ((ci dx.ls.length ≤ 9223372036854775807) ∧ Wt (.sl exTy) dx) := svf_ds (hx (.agg [.v (.int .i64 dc), .v (.int .i64 dh), .v (.int .i64 dw), .v (.int .i64 de), .v (.int .i64 dk), .imm exTy dx]) (List.mem_of_getElem? (i := 0) rfl))
  have sb : Fits .u8 b ∧ ci b.length ≤ 9223372036854775807 := svf_ints (hx (.iimm .u8 b) (by simp))
  have SD := Lib.hid sd
  clear sd
  have SB := Lib.hid sb
  clear sb
  clear hx hp h h0 H1 h1 H2
  generalize hA : std = A
  subst hG
  generalize h_c : ci = c
  generalize h_fl : lightF = fl
  generalize h_fm : mayDsF = fm
  generalize h_fsd : sameDsF = fsd
  generalize h_uE : encEF = uE
  generalize h_uB : encB0 = uB
  generalize h_dP : decP = dP
  generalize h_dE : decEF = dE
  generalize h_dV : decV0 = dV
  generalize h_dX : decX0 = dX
  generalize h_fY : yes = fY
  cbv
  (repeat' (first | apply And.intro | apply BrB.mk | apply BrP.mk | intro _))
  (all_goals (subst hA; subst h_c; subst h_fl; subst h_fm; subst h_fsd; subst h_uE; subst h_uB; subst h_dP; subst h_dE; subst h_dV; subst h_dX; subst h_fY); all_goals (have f_sd := SD.out; have f_sb := SB.out); all_goals (try simp only [std, stdBin, stdCmp, stdUna, stdIn, ci, beq_iff_eq, bne_iff_ne, beq_eq_false_iff_ne, bne_eq_false_iff_eq, decide_eq_true_eq, decide_eq_false_iff_not, Bool.not_true, Bool.not_false, Bool.not_eq_true', Bool.not_eq_false', Bool.not_not, tn0, tn1, tn2, tn3, lightF, mayDsF, sameDsF, encEF, encBF, encE, decP, decEF, decVF, decXF, yes, smL, dec_nil] at *); all_goals (try omega))
  all_goals first
    | exact True.intro
    | with_reducible rfl
    | skip
  all_goals (have hw : Wt (.sl exTy) dx := f_sd.2.2.2.2.2.2; have hy := byt_of f_sb.1; have hb0 : decE b = 0 ∨ ¬ decE b = 0 := Classical.em _)
  all_goals (rcases (Bool.eq_false_or_eq_true (mayDs dc dh dw de dk dx)) with hm | hm)
  all_goals (first
    | (have e1 := L_enc_t hm
       have hs := L_same hm hw
       have hW := (write_read hm hw).1
       have hle := bDs_le hm
       have hcut := cut_read hW hle.1
       have hmore := more_read (v := 0) hW hle.1
       have e2 : std.lsub (bDs dc dh dw de dk dx) 0 (((bDs dc dh dw de dk dx).length : Int) - 1) = List.take (((bDs dc dh dw de dk dx).length : Int) - 1).toNat (List.drop 0 (bDs dc dh dw de dk dx)) := rfl
       rw [e2] at hcut
       clear f_sd f_sb hw e2
       simp only [e1, Int.sub_zero, List.nil_append] at *
       clear e1
       generalize bDs dc dh dw de dk dx = B at *)
    | (have e1 := L_enc_f hm
       clear f_sd f_sb hw
       simp only [e1, hm] at *
       clear e1))
  all_goals first
    | contradiction
    | (show (_ : Int) ≤ _; clear hW hcut hmore hs hb0; omega)
    | (show (_ : Int) ≤ _ ∧ (_ : Int) ≤ _; clear hW hcut hmore hs hb0; omega)
    | (exfalso; simp_all; done)
    | (simp_all; done)
    | (simp only [List.length_append, List.length_take, List.length_drop, List.length_nil, List.length_singleton]; omega)
    | (rcases hb0 with hb | hb
       · obtain ⟨r1, r2⟩ := L_read hb hy
         first
           | contradiction
           | (exfalso; simp_all; done)
           | (simp only [r1, r2] at *; first | contradiction | (exfalso; simp_all; done))
       · have r3 := L_bad hb
         first
           | contradiction
           | (exfalso; have q : ((decX0 [AV.l b]).ls.length : Int) ≠ 0 := (by assumption); rw [r3] at q; exact q rfl))
    | trace_state
end Go.Proofs.Ytmlfiphpcjkadaa
