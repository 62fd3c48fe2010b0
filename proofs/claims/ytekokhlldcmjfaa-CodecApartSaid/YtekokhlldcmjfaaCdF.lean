/- Layer 24: a state with one more Param. -/
import Derived.Test.YtekokhlldcmjfaaCdE
namespace Go.Proofs.Ytekokhlldcmjfaa
open Go.RowKit
set_option maxRecDepth 1000000
set_option linter.unusedSimpArgs false
set_option linter.unusedVariables false
set_option maxHeartbeats 16000000
set_option cbv.maxSteps 10000000
/-- A weaker word of the same results. -/
theorem fok_weak {P : Program} {f : FuncId} {c c' : FCtr} (h : FOk P f c) (ht : c'.tys = c.tys) (hp : c'.pre = c.pre) (hr : ∀ xa, (c.res xa).pick.2 = [] ∧ (c'.res xa).pick.2 = [] ∧ ∀ g r v, (c.res xa).pick.1.Is g r v → (c'.res xa).pick.1.Is g r v) : FOk P f c' := by
  intro xa w g vs hg ha hpre
  rw [ht] at ha
  rw [hp] at hpre
  refine (h xa w g vs hg ha hpre).mono fun e w' ⟨v, g', he, hv⟩ => ⟨v, g', he, ?_⟩
  obtain ⟨h1, h2, h3⟩ := hr xa
  obtain ⟨a1, a2, a3, a4, a5⟩ := hv
  refine ⟨a1, a2, a3, ⟨a4.below, (by have q := h3 _ _ _ a4.sv; rw [h1] at q; rw [h2]; exact q), ?_, ?_⟩, ?_⟩
  · intro k o hk
    rw [h2] at hk
    simp at hk
  · intro j k o p a b c hj
    rw [h2] at hj
    simp at hj
  · intro k o u b hk
    rw [h2] at hk
    simp at hk
def yes (_ : List AV) : Bool := true
def senB0 (xa : List AV) : List Int := if senEF xa = 0 then senBF xa else []
def senC0 (e : List AV → Int) (b : List AV → List Int) : FCtr := ⟨[sttTy], fun _ => none, fun xa => .ret (.tup [.iimm .u8 (b xa), .v (.int .i64 (e xa))]) [], true⟩
theorem sen0_ok : FOk Try.prog 33 (senC0 senEF senB0) := by
  refine fok_weak sen24_ok rfl rfl fun xa => ?_
  have e01 : senEF xa = 0 ∨ senEF xa = 1 := by
    unfold senEF
    split
    · unfold senE; split <;> simp
    · exact .inr rfl
  by_cases h : senEF xa = 0
  · have e1 : ((senC senEF senBF).res xa).pick = (.tup [.iimm .u8 (senBF xa), .v (.int .i64 0)], []) := by simp [senC, Out.pick, h]
    have e2 : ((senC0 senEF senB0).res xa).pick = (.tup [.iimm .u8 (senBF xa), .v (.int .i64 0)], []) := by simp [senC0, senB0, Out.pick, h]
    rw [e1, e2]
    exact ⟨rfl, rfl, fun g r v hv => hv⟩
  · have h1 : senEF xa = 1 := e01.resolve_left h
    have e1 : ((senC senEF senBF).res xa).pick = (.tup [.v (.slice none 0 0), .v (.int .i64 1)], []) := by simp [senC, Out.pick, h1]
    have e2 : ((senC0 senEF senB0).res xa).pick = (.tup [.iimm .u8 [], .v (.int .i64 1)], []) := by simp [senC0, senB0, Out.pick, h1]
    rw [e1, e2]
    refine ⟨rfl, rfl, fun g r v hv => ?_⟩
    simp only [SV.Is, LsIs] at hv ⊢
    obtain ⟨cs, h2, u, us, h3, ⟨rfl, _⟩, h4⟩ := hv
    exact ⟨cs, h2, _, us, h3, ⟨holds_nil g, (fun x hx => by cases hx), Nat.zero_le _⟩, h4⟩
theorem g24_s : senB0 [AV.st [AV.z 5, AV.z 7, AV.d (Dat.list [])]] = stB 5 7 (.list []) := by
  unfold senB0
  rw [if_pos (show senEF [AV.st [AV.z 5, AV.z 7, AV.d (Dat.list [])]] = 0 from g24_r)]
  rfl
theorem awake24_ok : CtrOk Try.prog 32 (boolC [] yes) := by
  obtain ⟨G, hG⟩ : ∃ G : List (FuncId × Ctr), G = [] := ⟨_, rfl⟩
  refine fn_inl3 (ck := true) rfl [(33, senC0 senEF senB0), (39, sdC sdP)] ⟨⟨by unfold FnOk; kernel_rfl, sen0_ok⟩, ⟨by unfold FnOk; kernel_rfl, sd24_ok⟩, trivial⟩ [] trivial Try.func32 rfl tt_ok (G := G) (by rw [hG]; exact trivial) mixed (by kernel_rfl) ?_
  intro xa xs h hx hp
  obtain ⟨rfl, rfl⟩ := svArgs_nil h
  refine Bx.out ?_
  clear hx hp h 
  generalize hA : std = A
  subst hG
  generalize h_c : ci = c
  generalize h_uE : senEF = uE
  generalize h_uB : senB0 = uB
  generalize h_uP : sdP = uP
  generalize h_fY : yes = fY
  cbv
  refine Bx.mk ?_
  (repeat' (first | apply And.intro | apply BrB.mk | apply BrP.mk | intro _))
  all_goals (subst hA; subst h_c; subst h_uE; subst h_uB; subst h_uP; subst h_fY)
  all_goals (try simp only [std, stdBin, stdCmp, stdUna, stdIn, ci, beq_iff_eq, bne_iff_ne, beq_eq_false_iff_ne, bne_eq_false_iff_eq, decide_eq_true_eq, decide_eq_false_iff_not, Bool.not_true, Bool.not_false, Bool.not_eq_true', Bool.not_eq_false', Bool.not_not, tn0, tn1, tn2, tn3, g24_s, g24_q, senEF, g24_r, sdP, yes] at *)
  all_goals first | exact True.intro | with_reducible rfl | omega | (show Value.bool (7 == 7) = Value.bool true; rfl) | trace_state
def lt24 (x : Dat) : Nat → Int
  | 0 => 0
  | i + 1 => IntKind.i64.wrap (lt24 x i + IntKind.i64.wrap (IntKind.i64.wrap (((((x.at i).fld 0).fld 2).ints.length : Int) + (((x.at i).fld 1).ints.length : Int)) + ((((x.at i).fld 2).fld 2).ints.length : Int)))
def light24B (x : Dat) : Bool := allTo (fun i => decide (i < 20 ∧ lt24 x (i + 1) ≤ 2000)) x.ls.length
def light24F (xa : List AV) : Bool := match xa with
  | [.st [.z s, .z k, .d x]] => light24B x
  | _ => false
theorem light24_false {x : Dat} {j : Nat} (hj : j < x.ls.length) (h : ¬ (j < 20 ∧ lt24 x (j + 1) ≤ 2000)) : light24B x = false := allTo_false hj (decide_eq_false h)
theorem light24_ok : CtrOk Try.prog 31 (boolC [sttTy] light24F) := by
  obtain ⟨G, hG⟩ : ∃ G : List (FuncId × Ctr), G = [] := ⟨_, rfl⟩
  refine fn_ok (ck := false) Try.func31 rfl tt_ok (G := G) (by rw [hG]; exact trivial) mixed (by kernel_rfl) ?_
  intro xa xs h hx hp
  obtain ⟨a0, as0, x0, xs0, rfl, rfl, h0, H1⟩ := svArgs_cons h
  obtain ⟨rfl, rfl⟩ := svArgs_nil H1
  obtain ⟨ds, dk, dx, rfl, rfl⟩ := argSV_stt h0
  have sd : ((Lit.int .u64 ds).wf = true) ∧ (-9223372036854775808 ≤ dk ∧ dk ≤ 9223372036854775807) ∧ ((ci dx.ls.length ≤ 9223372036854775807) ∧ Wt (.sl prmTy) dx) := svf_stt (hx (.agg [.v (.int .u64 ds), .v (.int .i64 dk), .imm prmTy dx]) (List.mem_of_getElem? (i := 0) rfl))
  have SD := Lib.hid sd
  clear sd
  clear hx hp h h0 H1
  generalize hA : std = A
  subst hG
  generalize h_c : ci = c
  generalize h_fR : light24F = fR
  obtain ⟨T, hT⟩ : ∃ T : Nat → Int, ∀ j, T j = lt24 dx j := ⟨_, fun _ => rfl⟩
  have HT := Lib.hid hT
  clear hT
  cbv
  (repeat' (first | apply And.intro | apply BrB.mk | apply BrP.mk | intro _))
  all_goals try (refine loop_at Nat 9 (fun x => [(2, .any), (3, .v (.int .i64 (T x))), (4, .any), (5, .any), (9, .v (.int .i64 (c x)))]) (fun _ o => o) (fun x => ci x ≤ ci dx.ls.length ∧ allTo (fun i => decide (i < 20 ∧ lt24 dx (i + 1) ≤ 2000)) x = true) (fun x => dx.ls.length - x) 0 ⟨by simp [ci], rfl⟩ ?_ ?_
                 focus
                   show AS.le _ _
                   cbv
                   (repeat' (first | apply And.intro | apply BrB.mk | apply BrP.mk | intro _))
                   (all_goals (subst hA; subst h_c; subst h_fR); all_goals (have f_sd := SD.out); all_goals (try simp only [std, stdBin, stdCmp, stdUna, stdIn, ci, beq_iff_eq, bne_iff_ne, beq_eq_false_iff_ne, bne_eq_false_iff_eq, decide_eq_true_eq, decide_eq_false_iff_not, Bool.not_true, Bool.not_false, Bool.not_eq_true', Bool.not_eq_false', Bool.not_not, tn0, tn1, tn2, tn3] at *); all_goals (try omega))
                   all_goals first | rfl | (rw [HT.out]; rfl)
                   done)
  all_goals try (intro x hx; cbv; (repeat' (first | apply And.intro | apply BrB.mk | apply BrP.mk | intro _)))
  all_goals try (refine ⟨x + 1, ?_, ?_, ?_⟩)
  all_goals try (show AS.le _ _; cbv; (repeat' (first | apply And.intro | apply BrB.mk | apply BrP.mk | intro _)))
  all_goals (have t1 := HT.out)
  (all_goals (subst hA; subst h_c; subst h_fR); all_goals (have f_sd := SD.out); all_goals (try simp only [std, stdBin, stdCmp, stdUna, stdIn, ci, beq_iff_eq, bne_iff_ne, beq_eq_false_iff_ne, bne_eq_false_iff_eq, decide_eq_true_eq, decide_eq_false_iff_not, Bool.not_true, Bool.not_false, Bool.not_eq_true', Bool.not_eq_false', Bool.not_not, tn0, tn1, tn2, tn3, light24F, Int.toNat_natCast] at *); all_goals (try omega))
  all_goals first
    | exact True.intro
    | (have hb : x < 20 := (by omega); rw [w64 (by omega) (by omega)]; exact congrArg (Value.int .i64) (by omega))
    | (show Value.int .i64 (IntKind.i64.wrap (T x + _)) = Value.int .i64 (T (x + 1)); rw [t1 (x + 1), t1 x]; rfl)
    | (refine ⟨by omega, ?_⟩
       have hs : decide (x < 20 ∧ lt24 dx (x + 1) ≤ 2000) = true := decide_eq_true ⟨by omega, (by show IntKind.i64.wrap (lt24 dx x + _) ≤ 2000; rw [← t1 x]; omega)⟩
       simp only [allTo, hx.2, hs, Bool.and_self])
    | (refine vb ?_
       exact light24_false (j := x) (by omega) (by rintro ⟨_, q⟩; have hg : IntKind.i64.wrap (T x + _) > 2000 := (by assumption); rw [t1 x] at hg; have q : IntKind.i64.wrap (lt24 dx x + _) ≤ 2000 := q; exact absurd q (Int.not_le.2 hg)))
    | (refine vb ?_
       exact light24_false (j := x) (by omega) (by rintro ⟨q, _⟩; omega))
    | (refine vb ?_
       have e : x = dx.ls.length := (by omega)
       unfold light24B
       rw [← e]; exact hx.2)
    | trace_state
/-! ### One more -/
theorem bU8_n : ∀ n : Nat, n < 14 → bU8 (n : Int) = [(n : Int)] := by decide +kernel
theorem stPs_more (x : Dat) (P : Dat) : ∀ j : Nat, j ≤ x.ls.length → stPs (.list (x.ls ++ [P])) j = stPs x j
  | 0, _ => rfl
  | j + 1, h => by
    rw [stPs, stPs, stPs_more x P j (by omega)]
    congr 1
    have : (Dat.list (x.ls ++ [P])).at j = x.at j := by
      show (x.ls ++ [P]).getD j (.int 0) = x.ls.getD j (.int 0)
      simp only [List.getD_eq_getElem?_getD, List.getElem?_append, if_pos (show j < x.ls.length by omega)]
    rw [this]
theorem more_facts {s k : Int} {x P : Dat} (hm : mayStB k x = true) : ∃ H R : List Int, H.length = 16 ∧ stB s k x = H ++ ([(x.ls.length : Int)] ++ R) ∧ stB s k (.list (x.ls ++ [P])) = H ++ ([(x.ls.length : Int) + 1] ++ (R ++ layD P)) := by
  have hl := (stPs_small hm).1
  refine ⟨stMark ++ putK s 8 8 ++ bU32 k, stPs x x.ls.length, ?_, ?_, ?_⟩
  · simp only [List.length_append, bU32_len, putK_len]
    rfl
  · unfold stB stHead
    rw [bU8_n _ (by omega), List.append_assoc]
  · have e : (Dat.list (x.ls ++ [P])).ls.length = x.ls.length + 1 := by simp [Dat.ls]
    have hat : (Dat.list (x.ls ++ [P])).at x.ls.length = P := by
      show (x.ls ++ [P]).getD x.ls.length (.int 0) = P
      simp [List.getD_eq_getElem?_getD]
    unfold stB stHead
    rw [e, bU8_n _ (by omega), stPs, stPs_more x P _ (Nat.le_refl _), hat]
    simp only [List.append_assoc]
    push_cast
    rfl
end Go.Proofs.Ytekokhlldcmjfaa
