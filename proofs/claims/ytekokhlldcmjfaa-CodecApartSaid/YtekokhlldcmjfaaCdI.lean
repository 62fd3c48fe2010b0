/- Layer 24: two states have the same bytes just if they are the same. -/
import Derived.Test.YtekokhlldcmjfaaCdH
namespace Go.Proofs.Ytekokhlldcmjfaa
open Go.RowKit
set_option maxRecDepth 1000000
set_option linter.unusedSimpArgs false
set_option linter.unusedVariables false
set_option maxHeartbeats 16000000
set_option cbv.maxSteps 10000000
def samePD (x y : Dat) : Bool := sameTn (tnOf (x.fld 0)) (tnOf (y.fld 0)) && sameTn (tnOf (x.fld 2)) (tnOf (y.fld 2)) && decide ((x.fld 1).ints = (y.fld 1).ints)
def sprF (xa : List AV) : Bool := match xa with
  | [.d a, .d b] => decide (a.ls.length = b.ls.length) && allTo (fun i => samePD (a.at i) (b.at i)) a.ls.length
  | _ => false
theorem wt_at {T : Ty} {x : Dat} (h : Wt (.sl T) x) {i : Nat} (hi : i < x.ls.length) : Wt T (x.at i) := by
  simp only [Wt] at h
  obtain ⟨ds, rfl, h2, h3⟩ := h
  simp only [Dat.ls] at hi
  unfold Dat.at
  simp only [Dat.ls, List.getD_eq_getElem?_getD, List.getElem?_eq_getElem hi]
  exact h3 _ (List.getElem_mem _)
theorem prm_m {x : Dat} (h : Wt (.sl prmTy) x) {i : Nat} (hi : i < x.ls.length) : (((x.at i).fld 1).ints.length : Int) ≤ 9223372036854775807 := by
  have h1 := wt_at h hi
  generalize x.at i = y at h1
  simp only [prmTy, Wt, WtL] at h1
  obtain ⟨ds, rfl, u, us, rfl, h2, u2, us2, rfl, h3, _⟩ := h1
  obtain ⟨ms, rfl, h4, _⟩ := h3
  unfold maxLen at h4
  show (((Dat.list ms).ls.map Dat.z).length : Int) ≤ _
  rw [List.length_map]
  simp only [Dat.ls]
  omega
theorem ints_eq {a b : List Int} (hl : a.length = b.length) (h : ∀ j, j < a.length → a.getD j 0 = b.getD j 0) : a = b := by
  apply List.ext_getElem hl
  intro i h1 h2
  have := h i h1
  rwa [List.getD_eq_getElem?_getD, List.getD_eq_getElem?_getD, List.getElem?_eq_getElem h1, List.getElem?_eq_getElem h2] at this
theorem allTo_one {g : Nat → Bool} {x : Nat} (h : allTo g x = true) (h2 : g x = true) : allTo g (x + 1) = true := by
  show (allTo g x && g x) = true
  rw [h, h2]; rfl
theorem rspr_ok : CtrOk Try.prog 18 (boolC [.sl prmTy, .sl prmTy] sprF) := by
  obtain ⟨G, hG⟩ : ∃ G : List (FuncId × Ctr), G = [(63, boolC [tnTy .i8, tnTy .i8] sameTnF)] := ⟨_, rfl⟩
  refine fn_ok (ck := true) Try.func18 rfl tt_ok (G := G) (by rw [hG]; exact ⟨⟨rsameT_ok, by unfold FnOk; kernel_rfl⟩, trivial⟩) mixed (by kernel_rfl) ?_
  intro xa xs h hx hp
  obtain ⟨a0, as0, x0, xs0, rfl, rfl, h0, H1⟩ := svArgs_cons h
  obtain ⟨a1, as1, x1, xs1, rfl, rfl, h1, H2⟩ := svArgs_cons H1
  obtain ⟨rfl, rfl⟩ := svArgs_nil H2
  obtain ⟨a, rfl, rfl⟩ := argSV_rows h0
  obtain ⟨b, rfl, rfl⟩ := argSV_rows h1
  have sa : ci a.ls.length ≤ 9223372036854775807 ∧ Wt (.sl prmTy) a := ⟨wtl_len (hx (.imm prmTy a) (List.mem_of_getElem? (i := 0) rfl)), hx (.imm prmTy a) (List.mem_of_getElem? (i := 0) rfl)⟩
  have sb : ci b.ls.length ≤ 9223372036854775807 ∧ Wt (.sl prmTy) b := ⟨wtl_len (hx (.imm prmTy b) (List.mem_of_getElem? (i := 1) rfl)), hx (.imm prmTy b) (List.mem_of_getElem? (i := 1) rfl)⟩
  have SA := Lib.hid sa
  clear sa
  have SB := Lib.hid sb
  clear sb
  clear hx hp h h0 H1 h1 H2
  generalize hA : std = A
  subst hG
  generalize h_c : ci = c
  generalize h_fs : sameTnF = fs
  generalize h_fR : sprF = fR
  cbv
  (repeat' (first | apply And.intro | apply BrB.mk | apply BrP.mk | intro _))
  all_goals try (refine loop_at Nat 14 (fun x => [(5, .any), (6, .any), (14, .v (.int .i64 (c x)))]) (fun _ o => o) (fun x => x ≤ a.ls.length ∧ allTo (fun i => samePD (a.at i) (b.at i)) x = true) (fun x => a.ls.length - x) 0 ?h0 ?hle ?round)
  case h0 => exact ⟨Nat.zero_le _, rfl⟩
  case hle => (cbv; (repeat' (first | apply And.intro | apply BrB.mk | apply BrP.mk | intro _)); all_goals (subst hA; subst h_c; subst h_fs; subst h_fR); all_goals (have f_sa := SA.out; have f_sb := SB.out); all_goals (try simp only [std, stdBin, stdCmp, stdUna, stdIn, ci, beq_iff_eq, bne_iff_ne, beq_eq_false_iff_ne, bne_eq_false_iff_eq, decide_eq_true_eq, decide_eq_false_iff_not, Bool.not_true, Bool.not_false, Bool.not_eq_true', Bool.not_eq_false', Bool.not_not, tn0, tn1, tn2, tn3] at *); (all_goals first | exact True.intro | rfl | exact congrArg (Value.int .i64) (by omega)))
  case round =>
    intro x hx
    cbv
    refine BrB.mk (fun gx => ?yx) (fun gx => ?nx)
    case yx =>
      (repeat' (first | apply And.intro | apply BrB.mk | apply BrP.mk | intro _))
      all_goals try (refine loop_at Nat 64 (fun y => [(6, .any), (64, .v (.int .i64 (c y)))]) (fun _ o => o) (fun y => y ≤ ((a.at x).fld 1).ints.length ∧ ∀ j, j < y → ((a.at x).fld 1).ints.getD j 0 = ((b.at x).fld 1).ints.getD j 0) (fun y => ((a.at x).fld 1).ints.length - y) 0 ⟨Nat.zero_le _, fun j hj => absurd hj (Nat.not_lt_zero _)⟩ ?_ ?_
                     focus
                       show AS.le _ _
                       (cbv; (repeat' (first | apply And.intro | apply BrB.mk | apply BrP.mk | intro _)); all_goals (subst hA; subst h_c; subst h_fs; subst h_fR); all_goals (have f_sa := SA.out; have f_sb := SB.out); all_goals (try simp only [std, stdBin, stdCmp, stdUna, stdIn, ci, beq_iff_eq, bne_iff_ne, beq_eq_false_iff_ne, bne_eq_false_iff_eq, decide_eq_true_eq, decide_eq_false_iff_not, Bool.not_true, Bool.not_false, Bool.not_eq_true', Bool.not_eq_false', Bool.not_not, tn0, tn1, tn2, tn3] at *); (all_goals first | exact True.intro | rfl | exact congrArg (Value.int .i64) (by omega)))
                       done)
      all_goals try (intro q hq; cbv; refine BrB.mk (fun gq => ?_) (fun gq => ?_))
      all_goals (repeat' (first | apply And.intro | apply BrB.mk | apply BrP.mk | intro _))
      all_goals try first | (have _ : _ = true := gq; refine ⟨q + 1, ?_, ?_, ?_⟩) | (refine ⟨x + 1, ?_, ?_, ?_⟩)
      all_goals try (show AS.le _ _; (cbv; (repeat' (first | apply And.intro | apply BrB.mk | apply BrP.mk | intro _)); all_goals (subst hA; subst h_c; subst h_fs; subst h_fR); all_goals (have f_sa := SA.out; have f_sb := SB.out); all_goals (try simp only [std, stdBin, stdCmp, stdUna, stdIn, ci, beq_iff_eq, bne_iff_ne, beq_eq_false_iff_ne, bne_eq_false_iff_eq, decide_eq_true_eq, decide_eq_false_iff_not, Bool.not_true, Bool.not_false, Bool.not_eq_true', Bool.not_eq_false', Bool.not_not, tn0, tn1, tn2, tn3] at *); (all_goals first | exact True.intro | rfl | exact congrArg (Value.int .i64) (by omega))))
      (all_goals (subst hA; subst h_c; subst h_fs; subst h_fR); all_goals (have f_sa := SA.out; have f_sb := SB.out); all_goals (try simp only [std, stdBin, stdCmp, stdUna, stdIn, ci, beq_iff_eq, bne_iff_ne, beq_eq_false_iff_ne, bne_eq_false_iff_eq, decide_eq_true_eq, decide_eq_false_iff_not, Bool.not_true, Bool.not_false, Bool.not_eq_true', Bool.not_eq_false', Bool.not_not, tn0, tn1, tn2, tn3, sprF, sameTnF, Int.toNat_natCast] at *); all_goals (try omega))
      all_goals (have la := prm_m f_sa.2 (i := x) (by omega); have lb := prm_m f_sb.2 (i := x) (by omega))
      all_goals first
        | exact True.intro
        | omega
        | (refine ⟨by omega, fun j hj => ?_⟩
           by_cases e : j = q
           · subst e; first | assumption | omega
           · exact hq.2 j (by omega))
        | (refine vb ?_
           have hs : samePD (a.at x) (b.at x) = false := (by
             cases hh : samePD (a.at x) (b.at x) with
             | false => rfl
             | true =>
               exfalso
               unfold samePD tnOf at hh
               simp only [Bool.and_eq_true, decide_eq_true_eq] at hh
               obtain ⟨⟨k1, k2⟩, k3⟩ := hh
               first
                 | exact absurd (congrArg (fun l : List Int => (l.length : Int)) k3) (by assumption)
                 | exact absurd (congrArg (fun l : List Int => l.getD q 0) k3) (by assumption)
                 | (simp_all; done))
           rw [allTo_false (x := x) (by omega) hs, Bool.and_false]
           done)
        | (refine ⟨by omega, allTo_one hx.2 ?_⟩
           unfold samePD tnOf
           simp only [Bool.and_eq_true, decide_eq_true_eq]
           exact ⟨⟨by assumption, by assumption⟩, ints_eq (by omega) (fun j hj => hq.2 j (by omega))⟩)
        | trace_state
    case nx =>
      (repeat' (first | apply And.intro | apply BrB.mk | apply BrP.mk | intro _))
      (all_goals (subst hA; subst h_c; subst h_fs; subst h_fR); all_goals (have f_sa := SA.out; have f_sb := SB.out); all_goals (try simp only [std, stdBin, stdCmp, stdUna, stdIn, ci, beq_iff_eq, bne_iff_ne, beq_eq_false_iff_ne, bne_eq_false_iff_eq, decide_eq_true_eq, decide_eq_false_iff_not, Bool.not_true, Bool.not_false, Bool.not_eq_true', Bool.not_eq_false', Bool.not_not, tn0, tn1, tn2, tn3, sprF, sameTnF, Int.toNat_natCast] at *); all_goals (try omega))
      all_goals (refine vb ?_; have e : x = a.ls.length := (by omega); rw [← e, hx.2, decide_eq_true (show x = b.ls.length by omega)]; rfl)
  (all_goals (subst hA; subst h_c; subst h_fs; subst h_fR); all_goals (have f_sa := SA.out; have f_sb := SB.out); all_goals (try simp only [std, stdBin, stdCmp, stdUna, stdIn, ci, beq_iff_eq, bne_iff_ne, beq_eq_false_iff_ne, bne_eq_false_iff_eq, decide_eq_true_eq, decide_eq_false_iff_not, Bool.not_true, Bool.not_false, Bool.not_eq_true', Bool.not_eq_false', Bool.not_not, tn0, tn1, tn2, tn3, sprF, sameTnF] at *); all_goals (try omega))
  all_goals (refine vb ?_; rw [decide_eq_false (show ¬ a.ls.length = b.ls.length by omega)]; rfl)
/-! ### The bytes are one-to-one -/
theorem none_iff {D : List Int} {E : Int} {L M F : List Int} {G : Int} {H : List Int} (h : mpB D E L M F G H = true) : (noneB D E L M F G H = true ∧ D = [] ∧ E = 0 ∧ L = [] ∧ M = [] ∧ F = [] ∧ G = 0 ∧ H = []) ∨ (noneB D E L M F G H = false ∧ 1 ≤ D.length ∧ mayB ⟨D, E, L⟩ = true ∧ mayB ⟨F, G, H⟩ = true ∧ F.length = 1 ∧ M.length = L.length) := by
  cases hn : noneB D E L M F G H with
  | true =>
    left
    have := hn
    unfold noneB at this
    rw [decide_eq_true_eq] at this
    exact ⟨rfl, this⟩
  | false =>
    right
    unfold mpB at h
    rw [hn, Bool.false_or] at h
    simp only [Bool.and_eq_true, decide_eq_true_eq] at h
    obtain ⟨⟨⟨⟨h1, h2⟩, h3⟩, h4⟩, h5⟩ := h
    exact ⟨rfl, ((mayD_iff D).1 ((mayB_eq D L E).1 h1).1).1.1, h1, h2, h3, h4⟩
theorem layP_inj {D : List Int} {E : Int} {L M F : List Int} {G : Int} {H : List Int} {D' : List Int} {E' : Int} {L' M' F' : List Int} {G' : Int} {H' R S : List Int} (h1 : mpB D E L M F G H = true) (h2 : mpB D' E' L' M' F' G' H' = true)
    (f1 : Fits .i8 L) (f2 : Fits .i32 M) (f3 : Fits .i8 H) (f1' : Fits .i8 L') (f2' : Fits .i32 M') (f3' : Fits .i8 H') (h : layP D E L M F G H ++ R = layP D' E' L' M' F' G' H' ++ S) :
    (D = D' ∧ E = E' ∧ L = L' ∧ M = M' ∧ F = F' ∧ G = G' ∧ H = H') ∧ R = S := by
  have d1 := (mp_small h1).1
  have d2 := (mp_small h2).1
  unfold layP at h
  simp only [List.append_assoc] at h
  obtain ⟨e0, g0⟩ := app_inj h (by rw [bU8_len, bU8_len])
  have e1 := bU8_inj e0
  have el : D.length = D'.length := by omega
  rcases none_iff h1 with ⟨n1, rfl, rfl, rfl, rfl, rfl, rfl, rfl⟩ | ⟨n1, a1, a2, a3, a4, a5⟩
  · rcases none_iff h2 with ⟨n2, rfl, rfl, rfl, rfl, rfl, rfl, rfl⟩ | ⟨n2, b1, b2, b3, b4, b5⟩
    · rw [if_pos n1, List.nil_append, List.nil_append] at g0
      exact ⟨⟨rfl, rfl, rfl, rfl, rfl, rfl, rfl⟩, g0⟩
    · have z : D'.length = 0 := by rw [← el]; rfl
      omega
  · rcases none_iff h2 with ⟨n2, rfl, rfl, rfl, rfl, rfl, rfl, rfl⟩ | ⟨n2, b1, b2, b3, b4, b5⟩
    · have z : D.length = 0 := el
      omega
    · rw [if_neg (by rw [n1]; simp), if_neg (by rw [n2]; simp)] at g0
      simp only [List.append_assoc] at g0
      obtain ⟨q1, q2, q3, g1⟩ := tnB_inj a2 b2 f1 f1' el g0
      have em : M.length = M'.length := by rw [a5, b5, q3]
      obtain ⟨g2, g3⟩ := app_inj g1 (by rw [bMov_len, bMov_len, em])
      rw [em] at g2
      have q4 : M = M' := getD_ext em fun j hj => bMov_inj f2 f2' M'.length (by omega) (by omega) g2 j (by omega)
      obtain ⟨q5, q6, q7, g4⟩ := tnB_inj a3 b3 f3 f3' (by omega) g3
      exact ⟨⟨q1, q2, q3, q4, q5, q6, q7⟩, g4⟩
theorem fits_of24 {k : IntKind} {d : Dat} (h : Wt (.sl (.int k)) d) : Fits k d.ints := by
  simp only [Wt] at h
  obtain ⟨es, rfl, _, he⟩ := h
  intro z hz
  have hz : z ∈ es.map Dat.z := hz
  obtain ⟨e, he1, rfl⟩ := List.mem_map.1 hz
  obtain ⟨y, rfl, hy⟩ := he e he1
  exact hy
theorem prm_wt {x : Dat} (h : Wt (.sl prmTy) x) {i : Nat} (hi : i < x.ls.length) : Fits .i8 ((((x.at i).fld 0).fld 2).ints) ∧ Fits .i32 (((x.at i).fld 1).ints) ∧ Fits .i8 ((((x.at i).fld 2).fld 2).ints) := by
  have h1 := wt_at h hi
  generalize x.at i = y at h1
  unfold prmTy at h1
  rw [Wt] at h1
  obtain ⟨ds, rfl, h1⟩ := h1
  simp only [WtL] at h1
  obtain ⟨u, us, rfl, hu, u2, us2, rfl, hu2, u3, us3, rfl, hu3, rfl⟩ := h1
  rw [Wt] at hu hu3
  obtain ⟨es, rfl, hu⟩ := hu
  obtain ⟨es3, rfl, hu3⟩ := hu3
  simp only [WtL] at hu hu3
  obtain ⟨a, as1, rfl, _, b, as2, rfl, _, c, as3, rfl, hc, rfl⟩ := hu
  obtain ⟨a', bs1, rfl, _, b', bs2, rfl, _, c', bs3, rfl, hc', rfl⟩ := hu3
  exact ⟨fits_of24 hc, fits_of24 hu2, fits_of24 hc'⟩
theorem stPs_inj {x y : Dat} (hx : Wt (.sl prmTy) x) (hy : Wt (.sl prmTy) y) : ∀ n : Nat, n ≤ x.ls.length → n ≤ y.ls.length → (∀ i, i < n → mpD (x.at i) = true ∧ mpD (y.at i) = true) → ∀ R S : List Int, stPs x n ++ R = stPs y n ++ S → (∀ i, i < n → samePD (x.at i) (y.at i) = true) ∧ R = S
  | 0, _, _, _, R, S, h => ⟨fun i hi => absurd hi (Nat.not_lt_zero _), h⟩
  | n + 1, h1, h2, hm, R, S, h => by
    rw [stPs, stPs, List.append_assoc, List.append_assoc] at h
    obtain ⟨i1, i2⟩ := stPs_inj hx hy n (by omega) (by omega) (fun i hi => hm i (by omega)) _ _ h
    obtain ⟨m1, m2⟩ := hm n (by omega)
    obtain ⟨f1, f2, f3⟩ := prm_wt hx (i := n) (by omega)
    obtain ⟨g1, g2, g3⟩ := prm_wt hy (i := n) (by omega)
    obtain ⟨⟨q1, q2, q3, q4, q5, q6, q7⟩, q8⟩ := layP_inj m1 m2 f1 f2 f3 g1 g2 g3 i2
    refine ⟨fun i hi => ?_, q8⟩
    by_cases e : i = n
    · subst e
      unfold samePD sameTn tnOf
      simp only [q1, q2, q3, q4, q5, q6, q7]
      simp
    · exact i1 i (by omega)
theorem stB_inj {s k t j : Int} {x y : Dat} (hx : Wt (.sl prmTy) x) (hy : Wt (.sl prmTy) y) (hs : 0 ≤ s ∧ s ≤ 18446744073709551615) (ht : 0 ≤ t ∧ t ≤ 18446744073709551615) (m1 : mayStB k x = true) (m2 : mayStB j y = true) (h : stB s k x = stB t j y) : s = t ∧ k = j ∧ sprF [.d x, .d y] = true := by
  have a1 := stPs_small m1
  have a2 := stPs_small m2
  have b1 := m1
  have b2 := m2
  unfold mayStB at b1 b2
  simp only [Bool.and_eq_true, decide_eq_true_eq] at b1 b2
  unfold stB at h
  obtain ⟨e1, e2⟩ := app_inj h (by rw [stHead_len, stHead_len])
  unfold stHead at e1
  obtain ⟨e3, e4⟩ := app_inj e1 (by simp only [List.length_append, bU32_len, putK_len])
  obtain ⟨e5, e6⟩ := app_inj e3 (by simp only [List.length_append, putK_len])
  obtain ⟨_, e7⟩ := app_inj e5 rfl
  have q1 := seed_inj hs ht e7
  have q2 := bU32_inj (by omega) (by omega) e6
  have q3 := bU8_inj e4
  have q4 : x.ls.length = y.ls.length := by omega
  rw [q4] at e2
  have e8 : stPs x y.ls.length ++ [] = stPs y y.ls.length ++ [] := by rw [e2]
  obtain ⟨q5, _⟩ := stPs_inj hx hy y.ls.length (by omega) (Nat.le_refl _) (fun i hi => ⟨(a1.2 i (by omega)).2 (by omega), (a2.2 i (by omega)).2 (by omega)⟩) [] [] e8
  refine ⟨q1, q2, ?_⟩
  show (decide (x.ls.length = y.ls.length) && allTo (fun i => samePD (x.at i) (y.at i)) x.ls.length) = true
  rw [decide_eq_true q4, Bool.true_and, q4]
  have hall : ∀ m : Nat, (∀ i, i < m → samePD (x.at i) (y.at i) = true) → allTo (fun i => samePD (x.at i) (y.at i)) m = true := by
    intro m
    induction m with
    | zero => intro _; rfl
    | succ m ih => intro hh; rw [allTo, ih fun i hi => hh i (by omega), hh m (by omega)]; rfl
  exact hall _ q5
end Go.Proofs.Ytekokhlldcmjfaa
