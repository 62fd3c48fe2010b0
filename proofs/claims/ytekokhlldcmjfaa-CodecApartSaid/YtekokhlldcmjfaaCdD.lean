/- Layer 24: what Encode gives. -/
import Derived.Test.YtekokhlldcmjfaaCdC
namespace Go.Proofs.Ytekokhlldcmjfaa
open Go.RowKit
set_option maxRecDepth 1000000
set_option linter.unusedSimpArgs false
set_option linter.unusedVariables false
set_option maxHeartbeats 16000000
set_option cbv.maxSteps 10000000
theorem mayB_small {D : List Int} {E : Int} {L : List Int} (h : mayB ⟨D, E, L⟩ = true) : D.length ≤ 4 ∧ L.length ≤ 8192 := by
  unfold mayB at h
  simp only [Bool.and_eq_true, decide_eq_true_eq] at h
  have h1 := ((mayD_iff D).1 h.1.1.1).1
  have h2 := szD_in D
  exact ⟨by omega, by omega⟩
theorem mp_small {D : List Int} {E : Int} {L M F : List Int} {G : Int} {H : List Int} (h : mpB D E L M F G H = true) : D.length ≤ 4 ∧ L.length ≤ 8192 ∧ M.length ≤ 8192 ∧ F.length ≤ 4 ∧ H.length ≤ 8192 := by
  unfold mpB at h
  rw [Bool.or_eq_true] at h
  rcases h with h | h
  · unfold noneB at h
    rw [decide_eq_true_eq] at h
    obtain ⟨rfl, _, rfl, rfl, rfl, _, rfl⟩ := h
    simp
  · simp only [Bool.and_eq_true, decide_eq_true_eq] at h
    obtain ⟨⟨⟨⟨h1, h2⟩, h3⟩, h4⟩, h5⟩ := h
    obtain ⟨a1, a2⟩ := mayB_small h1
    obtain ⟨b1, b2⟩ := mayB_small h2
    exact ⟨a1, a2, by omega, b1, b2⟩
theorem layP_len {D : List Int} {E : Int} {L M F : List Int} {G : Int} {H : List Int} : (layP D E L M F G H).length = if noneB D E L M F G H = true then 1 else 1 + (2 * D.length + 1 + L.length) + 4 * M.length + (2 * F.length + 1 + H.length) := by
  unfold layP
  split
  · rw [List.append_nil, bU8_len]
  · simp only [List.length_append, bU8_len, tnB_len, bMov_len]
    omega
def layD (x : Dat) : List Int := layP (((x.fld 0).fld 0).ints) (((x.fld 0).fld 1).z) (((x.fld 0).fld 2).ints) ((x.fld 1).ints) (((x.fld 2).fld 0).ints) (((x.fld 2).fld 1).z) (((x.fld 2).fld 2).ints)
def stPs (x : Dat) : Nat → List Int
  | 0 => []
  | j + 1 => stPs x j ++ layD (x.at j)
def stMark : List Int := [112, 100, 115, 116]
def stHead (s k n : Int) : List Int := stMark ++ putK s 8 8 ++ bU32 k ++ bU8 n
def stB (s k : Int) (x : Dat) : List Int := stHead s k x.ls.length ++ stPs x x.ls.length
theorem stHead_len (s k n : Int) : (stHead s k n).length = 17 := by
  unfold stHead
  simp only [List.length_append, bU8_len, bU32_len, putK_len]
  rfl
theorem allTo_at {g : Nat → Bool} : ∀ {n : Nat}, allTo g n = true → ∀ i, i < n → g i = true
  | 0, _, i, hi => absurd hi (Nat.not_lt_zero _)
  | n + 1, h, i, hi => by
    simp only [allTo, Bool.and_eq_true] at h
    by_cases e : i = n
    · subst e; exact h.2
    · exact allTo_at h.1 i (by omega)
theorem layD_small {x : Dat} (h : mpD x = true) : 1 ≤ (layD x).length ∧ (layD x).length ≤ 100000 := by
  unfold mpD at h
  obtain ⟨h1, h2, h3, h4, h5⟩ := mp_small h
  unfold layD
  rw [layP_len]
  split <;> omega
theorem stPs_small {k : Int} {x : Dat} (hm : mayStB k x = true) : x.ls.length ≤ 12 ∧ ∀ i : Nat, i ≤ x.ls.length → (stPs x i).length ≤ i * 100000 ∧ (i < x.ls.length → mpD (x.at i) = true) := by
  unfold mayStB at hm
  simp only [Bool.and_eq_true, decide_eq_true_eq] at hm
  obtain ⟨⟨_, _, hl⟩, ha⟩ := hm
  refine ⟨hl, fun i => ?_⟩
  induction i with
  | zero => intro _; exact ⟨by simp [stPs], fun h => allTo_at ha 0 h⟩
  | succ i ih =>
    intro hi
    have h1 := (ih (by omega)).1
    have h2 := layD_small (allTo_at ha i (by omega))
    refine ⟨?_, fun h => allTo_at ha _ h⟩
    rw [stPs, List.length_append]
    omega
def senE (k : Int) (x : Dat) : Int := if mayStB k x = true then 0 else 1
def senEF (xa : List AV) : Int := match xa with
  | [.st [.z s, .z k, .d x]] => senE k x
  | _ => 1
def senBF (xa : List AV) : List Int := match xa with
  | [.st [.z s, .z k, .d x]] => stB s k x
  | _ => []
def senC (e : List AV → Int) (b : List AV → List Int) : FCtr := ⟨[sttTy], fun _ => none, fun xa => .ite (e xa = 0) (.ret (.tup [.iimm .u8 (b xa), .v (.int .i64 0)]) []) (.ret (.tup [.v (.slice none 0 0), .v (.int .i64 1)]) []), true⟩
theorem sen24_ok : FOk Try.prog 33 (senC senEF senBF) := by
  obtain ⟨G, hG⟩ : ∃ G : List (FuncId × Ctr), G = [(35, boolC [sttTy] mayStF)] := ⟨_, rfl⟩
  refine fn_inlFB (ck := false) [(115, mor wpMt (mrun (wpMt) (fun p => wpPre p.l p.wd) (wpX) (wpOs) (fun _ => [1])) (mrun (wpMtN) (fun p => wpPre [] p.wd) (wpX) (wpOsN) (fun _ => []))), (73, mfrz std (mor wbMt (mrun (wbMt) (fun p => wbPre p.l p.b) (wbX) (wbOs) (fun _ => [1])) (mrun (wbMtN) (fun p => wbPre [] p.b) (wbX) (wbOsE) (fun _ => [])))), (78, mor wyMt (mrun (wyMt) (fun p => wbPre p.l []) (wyX) (wyOs) (fun _ => [])) (mrun (wyMtN) (fun p => True) (wyXN) (wyOsN) (fun _ => []))), (77, mrun (lyMt) (fun p => lyPre p.l p.D p.L p.M p.F p.H) (lyX) (lyOs) (fun _ => [1]))] (iok_cons (RunOk.up wput_ok) (iok_cons wrawF_ok (iok_cons (RunOk.up wbytes_ok) (iok_cons (RunOk.up ly_mth) iok_nil)))) [(76, Try.f76), (75, Try.f75), (74, Try.f74)] ⟨⟨Try.func76, by unfold FnOk; kernel_rfl, by kernel_rfl⟩, ⟨Try.func75, by unfold FnOk; kernel_rfl, by kernel_rfl⟩, ⟨Try.func74, by unfold FnOk; kernel_rfl, by kernel_rfl⟩, trivial⟩ Try.func33 rfl tt_ok (G := G) (by rw [hG]; exact ⟨⟨may24_ok, by unfold FnOk; kernel_rfl⟩, trivial⟩) mixed (by kernel_rfl) ?_
  intro xa xs h hx hp
  obtain ⟨a0, as0, x0, xs0, rfl, rfl, h0, H1⟩ := svArgs_cons h
  obtain ⟨rfl, rfl⟩ := svArgs_nil H1
  obtain ⟨ps, pk, px, rfl, rfl⟩ := argSV_stt h0
  delta lyOs lyX wbOs wbOsE wbX wpOs wpOsN wpX wyOs wyOsN wyX wyXN
  have sp : ((Lit.int .u64 ps).wf = true) ∧ (-9223372036854775808 ≤ pk ∧ pk ≤ 9223372036854775807) ∧ ((ci px.ls.length ≤ 9223372036854775807) ∧ Wt (.sl prmTy) px) := svf_stt (hx (.agg [.v (.int .u64 ps), .v (.int .i64 pk), .imm prmTy px]) (List.mem_of_getElem? (i := 0) rfl))
  have SP := Lib.hid sp
  clear sp
  clear hx hp h h0 H1
  generalize hA : std = A
  subst hG
  generalize h_c : ci = c
  generalize h_fM : mayStF = fM
  generalize h_fE : senEF = fE
  generalize h_fB : senBF = fB
  generalize h_fL : wpL = fL
  generalize h_fp : wpPre = fp
  generalize h_fb : wbPre = fb
  generalize h_fW : wbL = fW
  generalize h_fY : lyL = fY
  generalize h_fq : lyPre = fq
  obtain ⟨T, hT⟩ : ∃ T : Nat → List Int, ∀ i, T i = stHead ps pk px.ls.length ++ stPs px i := ⟨_, fun _ => rfl⟩
  have HT := Lib.hid hT
  clear hT
  cbv
  (repeat' (first | apply And.intro | apply BrB.mk | apply BrP.mk | intro _))
  (all_goals try (exfalso; (subst hA; subst h_c; subst h_fM; subst h_fE; subst h_fB; subst h_fL; subst h_fp; subst h_fb; subst h_fW; subst h_fY; subst h_fq); (try simp only [std, stdBin, stdCmp, stdUna, stdIn, ci, beq_iff_eq, bne_iff_ne, beq_eq_false_iff_ne, bne_eq_false_iff_eq, decide_eq_true_eq, decide_eq_false_iff_not, Bool.not_true, Bool.not_false, Bool.not_eq_true', Bool.not_eq_false', Bool.not_not, tn0, tn1, tn2, tn3] at *); first | omega | contradiction))
  all_goals try (refine loop_at Nat 27 (fun x => [(6, .any), (27, .v (.int .i64 (c x)))]) (fun x o => o.set 3 (.irow 5 .u8 (T x))) (fun x => x ≤ px.ls.length) (fun x => px.ls.length - x) 0 (Nat.zero_le _) ?hle ?round)
  case hle =>
    cbv
    (repeat' (first | apply And.intro | apply BrB.mk | apply BrP.mk | intro _))
    (all_goals (subst hA; subst h_c; subst h_fM; subst h_fE; subst h_fB; subst h_fL; subst h_fp; subst h_fb; subst h_fW; subst h_fY; subst h_fq); all_goals (have f_sp := SP.out); all_goals (try simp only [std, stdBin, stdCmp, stdUna, stdIn, ci, beq_iff_eq, bne_iff_ne, beq_eq_false_iff_ne, bne_eq_false_iff_eq, decide_eq_true_eq, decide_eq_false_iff_not, Bool.not_true, Bool.not_false, Bool.not_eq_true', Bool.not_eq_false', Bool.not_not, tn0, tn1, tn2, tn3] at *); all_goals (try omega))
    all_goals (have t0 := HT.out 0)
    all_goals first
      | exact True.intro
      | with_reducible rfl
      | (show ([] ++ stMark) ++ putK ps 8 8 ++ putK _ 4 4 ++ putK _ 1 1 = T 0; rw [t0]; simp only [stPs, stHead, bU32, bU8, List.append_nil, List.nil_append, List.append_assoc] <;> rfl)
      | rfl
      | trace_state
  case round =>
    intro x hx
    cbv
    (repeat' (first | apply And.intro | apply BrB.mk | apply BrP.mk | intro _))
    all_goals try (refine ⟨x + 1, ?_, ?_, ?_⟩)
    all_goals try (show AS.le _ _; cbv; (repeat' (first | apply And.intro | apply BrB.mk | apply BrP.mk | intro _)))
    (all_goals (subst hA; subst h_c; subst h_fM; subst h_fE; subst h_fB; subst h_fL; subst h_fp; subst h_fb; subst h_fW; subst h_fY; subst h_fq); all_goals (have f_sp := SP.out); all_goals (try simp only [std, stdBin, stdCmp, stdUna, stdIn, ci, beq_iff_eq, bne_iff_ne, beq_eq_false_iff_ne, bne_eq_false_iff_eq, decide_eq_true_eq, decide_eq_false_iff_not, Bool.not_true, Bool.not_false, Bool.not_eq_true', Bool.not_eq_false', Bool.not_not, tn0, tn1, tn2, tn3, mayStF, senE, senEF, senBF, Int.toNat_natCast] at *); all_goals (try omega))
    all_goals (have t1 := HT.out; have hm : mayStB pk px = true := (by assumption); have hsm := stPs_small hm; have hTl : ∀ i : Nat, i ≤ px.ls.length → (T i).length ≤ 2000000 := fun i hi => (by have h1 := (hsm.2 i hi).1; rw [t1, List.length_append, stHead_len]; omega))
    all_goals first
      | exact True.intro
      | (have hx1 : x < px.ls.length := (by omega)
         have hsp := mp_small ((hsm.2 x hx).2 hx1)
         have hT1 := hTl x hx
         first
           | omega
           | (refine ⟨?_, ?_, ?_, ?_, ?_, ?_⟩
              · show (((T x).length : Nat) : Int) ≤ 100000000; omega
              · exact Int.ofNat_le.2 (Nat.le_trans hsp.1 (by decide))
              · exact Int.ofNat_le.2 (Nat.le_trans hsp.2.1 (by decide))
              · exact Int.ofNat_le.2 (Nat.le_trans hsp.2.2.1 (by decide))
              · exact Int.ofNat_le.2 (Nat.le_trans hsp.2.2.2.1 (by decide))
              · exact Int.ofNat_le.2 (Nat.le_trans hsp.2.2.2.2 (by decide)))
           | (show T x ++ layD (px.at x) = T (x + 1); rw [t1, t1, stPs]; simp only [List.append_assoc] <;> rfl)
           | (rw [w64 (by omega) (by omega)]; exact congrArg (Value.int .i64) (by omega)))
      | (have hT1 := hTl x hx; show ((T x).length : Int) + (([] : List Int).length : Int) ≤ 140737488355328; simp only [List.length_nil]; omega)
      | (exfalso; simp_all; done)
      | (have e : x = px.ls.length := (by omega); subst e; rw [t1]; rfl)
      | trace_state
  (all_goals (subst hA; subst h_c; subst h_fM; subst h_fE; subst h_fB; subst h_fL; subst h_fp; subst h_fb; subst h_fW; subst h_fY; subst h_fq); all_goals (have f_sp := SP.out); all_goals (try simp only [std, stdBin, stdCmp, stdUna, stdIn, ci, beq_iff_eq, bne_iff_ne, beq_eq_false_iff_ne, bne_eq_false_iff_eq, decide_eq_true_eq, decide_eq_false_iff_not, Bool.not_true, Bool.not_false, Bool.not_eq_true', Bool.not_eq_false', Bool.not_not, tn0, tn1, tn2, tn3, mayStF, senE, senEF, senBF] at *); all_goals (try omega))
  all_goals first
    | exact True.intro
    | (exfalso; simp_all; done)
    | (show ((([] : List Int).length : Int) + (([112, 100, 115, 116] : List Int).length : Int)) ≤ 140737488355328; decide)
    | (refine ⟨⟨by decide, by decide⟩, ?_⟩; simp only [wpL_len]; decide)
    | exact ⟨⟨by decide, by decide⟩, of_decide_eq_true (by kernel_rfl)⟩
    | trace_state
end Go.Proofs.Ytekokhlldcmjfaa
