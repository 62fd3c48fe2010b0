/- Contracts of what most packages, and their counterparts, use. -/
import Derived.Test.YtekokhlldcmjfaaCtr
import Derived.Test.YtekokhlldcmjfaaSlices
namespace Go.Proofs.Ytekokhlldcmjfaa
open Go.RowKit
set_option maxRecDepth 100000
set_option linter.unusedSimpArgs false
set_option linter.unusedVariables false
set_option maxHeartbeats 2000000
theorem below_drewN (w : World) (n : Nat) : Below w.heap.size w (w.drewN n) := ⟨rfl, rfl, rfl, Nat.le_refl _, fun _ _ => rfl⟩
theorem fresh_gv {g w w' : World} {E : TypeId} {k : IntKind} {l : List Int} {v : Value} (h : w'.ownsRow w.heap.size E 1 v l.length (kv k l)) (hf : Fits k l) (hb : Below w.heap.size w w') : Gv g noR 0 w (.hdl 0, [(0, .irow E k l)]) v w' := by
  have hd : vdeep v = [v] ∧ one1 v := by
    rcases h.2 with ⟨rfl, _⟩ | ⟨q, c, cur, rfl, _⟩ <;> exact ⟨rfl, rfl, rfl⟩
  refine ⟨hb, ?_, ?_, ?_⟩
  · simp only [SV.Is, ext]
    rw [if_neg (Nat.not_lt_zero _), hd.1]
    rfl
  · intro i o hi
    cases i with
    | succ i => simp at hi
    | zero =>
      simp at hi
      subst hi
      exact ⟨v, by rw [hd.1]; rfl, hd.2, .of h, hf⟩
  · intro i j o p a b c h1 h2 hne
    cases i with
    | succ i => simp at h1
    | zero => cases j with
      | succ j => simp at h2
      | zero => exact absurd rfl hne
/-- A row of numbers comes. -/
def rowC (ts : List Ty) (E : TypeId) (k : IntKind) (f : List AV → List Int) : Ctr := ⟨ts, fun _ => none, fun xa => .ret (.hdl 0) [(0, .irow E k (f xa))], false⟩
def rowP (ts : List Ty) (E : TypeId) (k : IntKind) (p : List AV → Prop) (f : List AV → List Int) : Ctr := ⟨ts, fun xa => some (p xa), fun xa => .ret (.hdl 0) [(0, .irow E k (f xa))], false⟩
def lenP (n : Int) (xa : List AV) : Prop := match xa with
  | [.l l] => (l.length : Int) * n ≤ 140737488355328
  | _ => False
def sameL (xa : List AV) : List Int := match xa with
  | [.l l] => l
  | _ => []
def eqF (xa : List AV) : Bool := match xa with
  | [.l a, .l b] => a == b
  | _ => false
def szF (xa : List AV) : Int := match xa with
  | [.l D] => szD D
  | _ => 0
theorem of_ints2 {w : World} {k : IntKind} {xa : List AV} {vs : List Value} (h : ArgsIs w [.sl (.int k), .sl (.int k)] xa vs) : ∃ l m v u, xa = [.l l, .l m] ∧ vs = [v, u] ∧ Reads k w v l ∧ Reads k w u m := by
  obtain ⟨a, as', v, vs', rfl, rfl, h1, h⟩ := args_cons h
  obtain ⟨b, as'', u, vs', rfl, rfl, h2, h⟩ := args_cons h
  obtain ⟨rfl, rfl⟩ := args_nil h
  obtain ⟨l, rfl, h3⟩ := of_arg_ints h1
  obtain ⟨m, rfl, h4⟩ := of_arg_ints h2
  exact ⟨l, m, v, u, rfl, rfl, h3, h4⟩
theorem of_ints1 {w : World} {k : IntKind} {xa : List AV} {vs : List Value} (h : ArgsIs w [.sl (.int k)] xa vs) : ∃ l v, xa = [.l l] ∧ vs = [v] ∧ Reads k w v l := by
  obtain ⟨a, as', v, vs', rfl, rfl, h1, h⟩ := args_cons h
  obtain ⟨rfl, rfl⟩ := args_nil h
  obtain ⟨l, rfl, h3⟩ := of_arg_ints h1
  exact ⟨l, v, rfl, rfl, h3⟩
theorem same_ok : CtrOk Try.prog 45 (boolC [.sl (.int .i64), .sl (.int .i64)] eqF) := by
  intro xa w g vs ha _ hp
  obtain ⟨l, m, v, u, rfl, rfl, h1, h2⟩ := of_ints2 ha
  refine (same_any v u l m w h1 h2).mono fun e w' ⟨he, n, hw⟩ => ⟨_, he, ?_⟩
  subst hw
  exact gv_val trivial (below_drewN w n)
theorem rsame_ok : CtrOk Try.prog 55 (boolC [.sl (.int .i64), .sl (.int .i64)] eqF) := by
  intro xa w g vs ha _ hp
  obtain ⟨l, m, v, u, rfl, rfl, h1, h2⟩ := of_ints2 ha
  refine (sameInts_any v u l m w h1 h2).mono fun e w' ⟨he, n, hw⟩ => ⟨_, he, ?_⟩
  subst hw
  exact gv_val trivial (below_drewN w n)
theorem rmay_ok : CtrOk Try.prog 71 (boolC [.sl (.int .i64)] shMayF) := by
  intro xa w g vs ha _ hp
  obtain ⟨l, v, rfl, rfl, h1⟩ := of_ints1 ha
  refine (rmay_any v l w h1).mono fun e w' ⟨he, hw⟩ => ⟨_, he, ?_⟩
  subst hw
  exact gv_val trivial (Below.refl _ _)
theorem szD_in (D : List Int) : 0 ≤ szD D ∧ szD D ≤ 8192 := by
  by_cases h : mayD D = true
  · have h1 := ((mayD_iff D).1 h).2
    have h2 := prodFrom_pos 1 D (by omega) h1.1
    unfold szD
    rw [if_pos h]
    omega
  · unfold szD
    rw [if_neg h]
    omega
theorem size_ok : CtrOk Try.prog 130 (intC [.sl (.int .i64)] .i64 szF) := by
  intro xa w g vs ha _ hp
  obtain ⟨l, v, rfl, rfl, h1⟩ := of_ints1 ha
  refine (size_any v l w h1).mono fun e w' ⟨he, hw⟩ => ⟨_, he, ?_⟩
  subst hw
  have := szD_in l
  exact gv_val (v := .int .i64 (szD l)) (WalkArith.wf_i64 (by omega)) (Below.refl _ _)
theorem rsize_ok : CtrOk Try.prog 72 (intC [.sl (.int .i64)] .i64 szF) := by
  intro xa w g vs ha _ hp
  obtain ⟨l, v, rfl, rfl, h1⟩ := of_ints1 ha
  refine (rsize_any v l w h1).mono fun e w' ⟨he, hw⟩ => ⟨_, he, ?_⟩
  subst hw
  have := szD_in l
  exact gv_val (v := .int .i64 (szD l)) (WalkArith.wf_i64 (by omega)) (Below.refl _ _)
theorem cloneI_ok : CtrOk Try.prog 100 (rowP [.sl (.int .i64)] 3 .i64 (lenP 8) sameL) := by
  intro xa w g vs ha _ hp
  obtain ⟨l, v, rfl, rfl, h1⟩ := of_ints1 ha
  have hq : (l.length : Int) * 8 ≤ 140737488355328 := hp _ rfl
  refine (cloneI_any v l w h1.1 (by omega)).mono fun e w' ⟨u, he, ho, hb⟩ => ⟨_, he, ?_⟩
  rw [kv_len] at ho
  exact fresh_gv ho h1.2.1 hb
theorem clone8_ok : CtrOk Try.prog 101 (rowP [.sl (.int .i8)] 52 .i8 (lenP 1) sameL) := by
  intro xa w g vs ha _ hp
  obtain ⟨l, v, rfl, rfl, h1⟩ := of_ints1 ha
  have hq : (l.length : Int) * 1 ≤ 140737488355328 := hp _ rfl
  refine (clone8_any v l w h1.1 (by omega)).mono fun e w' ⟨u, he, ho, hb⟩ => ⟨_, he, ?_⟩
  rw [kv_len] at ho
  exact fresh_gv ho h1.2.1 hb
theorem all_ne (L : List Int) (v : Int) : ∀ n, (∀ j, j < n → L.getD j 0 ≠ v) → n = L.length → L.contains v = false := by
  intro n h e
  rw [List.contains_eq_mem, decide_eq_false_iff_not]
  intro hm
  obtain ⟨j, hj, he⟩ := List.mem_iff_getElem.1 hm
  refine h j (by omega) ?_
  rw [List.getD_eq_getElem?_getD, List.getElem?_eq_getElem hj, he]
  rfl
theorem mayB_eq (D L : List Int) (e : Int) : mayB ⟨D, e, L⟩ = true ↔ mayD D = true ∧ (L.length : Int) = szD D ∧ (-64 ≤ e ∧ e ≤ 64) ∧ L.contains (-128) = false := by
  simp only [mayB, expB, Bool.and_eq_true, decide_eq_true_eq, Bool.not_eq_true']
  constructor
  · rintro ⟨⟨⟨h1, h2⟩, h3⟩, h4⟩; exact ⟨h1, h2, h3, h4⟩
  · rintro ⟨h1, h2, h3, h4⟩; exact ⟨⟨⟨h1, h2⟩, h3⟩, h4⟩
theorem vb {a b : Bool} (h : b = a) : Value.bool a = Value.bool b := by rw [h]
theorem rmayT_ok : CtrOk Try.prog 30 (boolC [tnTy .i8] tnMayF) := by
  obtain ⟨G, hG⟩ : ∃ G : List (FuncId × Ctr), G = [(71, boolC [.sl (.int .i64)] shMayF), (72, intC [.sl (.int .i64)] .i64 szF)] := ⟨_, rfl⟩
  refine fn_ok (ck := true) Try.func30 rfl tt_ok (G := G) (by rw [hG]; exact ⟨⟨rmay_ok, by unfold FnOk; kernel_rfl⟩, ⟨rsize_ok, by unfold FnOk; kernel_rfl⟩, trivial⟩) mixed (by kernel_rfl) ?_
  intro xa xs h hx hp
  obtain ⟨a0, as0, x0, xs0, rfl, rfl, h0, H1⟩ := svArgs_cons h
  obtain ⟨rfl, rfl⟩ := svArgs_nil H1
  obtain ⟨⟨tD, tE, tL⟩, rfl, rfl⟩ := argSV_tn h0
  have st : (Fits .i64 tD ∧ ci tD.length ≤ 9223372036854775807) ∧ (-9223372036854775808 ≤ tE ∧ tE ≤ 9223372036854775807) ∧ Fits .i8 tL ∧ ci tL.length ≤ 9223372036854775807 := svf_tn (hx (Tn.sv .i8 ⟨tD, tE, tL⟩) (by simp))
  have ST := Lib.hid st
  clear st
  clear hx hp h h0 H1
  generalize hA : std = A
  subst hG
  generalize h_c : ci = c
  generalize h_fm : shMayF = fm
  generalize h_fs : szF = fs
  generalize h_fR : tnMayF = fR
  cbv
  (repeat' (first | apply And.intro | apply BrB.mk | apply BrP.mk | intro _))
  all_goals try (refine loop_at Nat 31 (fun x => [(4, .any), (31, .v (.int .i64 (c x)))]) (fun _ o => o) (fun x => ci x ≤ ci tL.length ∧ ∀ j, j < x → tL.getD j 0 ≠ -128) (fun x => tL.length - x) 0 ?h0 ?hle ?round)
  case h0 => exact ⟨by simp [ci], fun j hj => absurd hj (Nat.not_lt_zero _)⟩
  case hle => (cbv; (repeat' (first | apply And.intro | apply BrB.mk | apply BrP.mk | intro _)); all_goals (subst hA; subst h_c; subst h_fm; subst h_fs; subst h_fR); all_goals (have f_st := ST.out); all_goals (try simp only [std, stdBin, stdCmp, stdUna, stdIn, ci, beq_iff_eq, bne_iff_ne, beq_eq_false_iff_ne, bne_eq_false_iff_eq, decide_eq_true_eq, decide_eq_false_iff_not, Bool.not_true, Bool.not_false, Bool.not_eq_true', Bool.not_eq_false', Bool.not_not, tn0, tn1, tn2, tn3] at *); (all_goals first | exact True.intro | rfl | exact congrArg (Value.int .i64) (by omega)))
  case round =>
    intro x hx
    cbv
    (repeat' (first | apply And.intro | apply BrB.mk | apply BrP.mk | intro _))
    all_goals try (refine ⟨x + 1, ?i, ?le, ?mu⟩)
    case le => (cbv; (repeat' (first | apply And.intro | apply BrB.mk | apply BrP.mk | intro _)); all_goals (subst hA; subst h_c; subst h_fm; subst h_fs; subst h_fR); all_goals (have f_st := ST.out); all_goals (try simp only [std, stdBin, stdCmp, stdUna, stdIn, ci, beq_iff_eq, bne_iff_ne, beq_eq_false_iff_ne, bne_eq_false_iff_eq, decide_eq_true_eq, decide_eq_false_iff_not, Bool.not_true, Bool.not_false, Bool.not_eq_true', Bool.not_eq_false', Bool.not_not, tn0, tn1, tn2, tn3] at *); (all_goals first | exact True.intro | rfl | exact congrArg (Value.int .i64) (by omega)))
    (all_goals (subst hA; subst h_c; subst h_fm; subst h_fs; subst h_fR); all_goals (have f_st := ST.out); all_goals (try simp only [std, stdBin, stdCmp, stdUna, stdIn, ci, beq_iff_eq, bne_iff_ne, beq_eq_false_iff_ne, bne_eq_false_iff_eq, decide_eq_true_eq, decide_eq_false_iff_not, Bool.not_true, Bool.not_false, Bool.not_eq_true', Bool.not_eq_false', Bool.not_not, tn0, tn1, tn2, tn3] at *); all_goals (try omega))
    case i =>
      refine ⟨by omega, fun j hj => ?_⟩
      by_cases e : j = x
      · subst e; assumption
      · exact hx.2 j (by omega)
    all_goals (refine vb ?_; simp only [tnMayF, shMayF, szF, Bool.eq_false_iff, ne_eq, mayB_eq] at *)
    · rintro ⟨_, _, _, h4⟩
      have g1 : tL.getD ((x : Int).toNat) 0 = -128 := by assumption
      have : tL.contains (-128) = true := by
        rw [List.contains_eq_mem, decide_eq_true_eq, ← g1, Int.toNat_natCast, List.getD_eq_getElem?_getD, List.getElem?_eq_getElem (by omega)]
        exact List.getElem_mem _
      exact h4 this
    · exact ⟨by assumption, by assumption, by omega, by rw [all_ne tL (-128) x hx.2 (by omega)]; decide⟩
  (all_goals (subst hA; subst h_c; subst h_fm; subst h_fs; subst h_fR); all_goals (have f_st := ST.out); all_goals (try simp only [std, stdBin, stdCmp, stdUna, stdIn, ci, beq_iff_eq, bne_iff_ne, beq_eq_false_iff_ne, bne_eq_false_iff_eq, decide_eq_true_eq, decide_eq_false_iff_not, Bool.not_true, Bool.not_false, Bool.not_eq_true', Bool.not_eq_false', Bool.not_not, tn0, tn1, tn2, tn3] at *); all_goals (try omega))
  all_goals (refine vb ?_; simp only [tnMayF, shMayF, szF, Bool.eq_false_iff, ne_eq, mayB_eq] at *; first | omega | (rintro ⟨h1, h2, h3, h4⟩; first | omega | contradiction))
theorem eqL {l m : List Int} (h : l.length = m.length) (hg : ∀ j, j < l.length → l.getD j 0 = m.getD j 0) : l = m := by
  apply List.ext_getElem h
  intro j h1 h2
  have := hg j h1
  simpa [List.getD_eq_getElem?_getD, List.getElem?_eq_getElem h1, List.getElem?_eq_getElem h2] using this
def sameTn (a b : Tn) : Bool := a.dims == b.dims && (decide (a.exp = b.exp) && a.data == b.data)
theorem sameTn_iff (D L D' L' : List Int) (e e' : Int) : sameTn ⟨D, e, L⟩ ⟨D', e', L'⟩ = true ↔ D = D' ∧ e = e' ∧ L = L' := by
  simp [sameTn]
def sameTnF (xa : List AV) : Bool := match xa with
  | [.st [.l D, .z e, .l L], .st [.l D', .z e', .l L']] => sameTn ⟨D, e, L⟩ ⟨D', e', L'⟩
  | _ => false
theorem rsameT_ok : CtrOk Try.prog 63 (boolC [tnTy .i8, tnTy .i8] sameTnF) := by
  obtain ⟨G, hG⟩ : ∃ G : List (FuncId × Ctr), G = [(55, boolC [.sl (.int .i64), .sl (.int .i64)] eqF)] := ⟨_, rfl⟩
  refine fn_ok (ck := true) Try.func63 rfl tt_ok (G := G) (by rw [hG]; exact ⟨⟨rsame_ok, by unfold FnOk; kernel_rfl⟩, trivial⟩) mixed (by kernel_rfl) ?_
  intro xa xs h hx hp
  obtain ⟨a0, as0, x0, xs0, rfl, rfl, h0, H1⟩ := svArgs_cons h
  obtain ⟨a1, as1, x1, xs1, rfl, rfl, h1, H2⟩ := svArgs_cons H1
  obtain ⟨rfl, rfl⟩ := svArgs_nil H2
  obtain ⟨⟨aD, aE, aL⟩, rfl, rfl⟩ := argSV_tn h0
  obtain ⟨⟨bD, bE, bL⟩, rfl, rfl⟩ := argSV_tn h1
  have sa : (Fits .i64 aD ∧ ci aD.length ≤ 9223372036854775807) ∧ (-9223372036854775808 ≤ aE ∧ aE ≤ 9223372036854775807) ∧ Fits .i8 aL ∧ ci aL.length ≤ 9223372036854775807 := svf_tn (hx (Tn.sv .i8 ⟨aD, aE, aL⟩) (by simp))
  have sb : (Fits .i64 bD ∧ ci bD.length ≤ 9223372036854775807) ∧ (-9223372036854775808 ≤ bE ∧ bE ≤ 9223372036854775807) ∧ Fits .i8 bL ∧ ci bL.length ≤ 9223372036854775807 := svf_tn (hx (Tn.sv .i8 ⟨bD, bE, bL⟩) (by simp))
  have SA := Lib.hid sa
  clear sa
  have SB := Lib.hid sb
  clear sb
  clear hx hp h h0 H1 h1 H2
  generalize hA : std = A
  subst hG
  generalize h_c : ci = c
  generalize h_fm : eqF = fm
  generalize h_fR : sameTnF = fR
  cbv
  (repeat' (first | apply And.intro | apply BrB.mk | apply BrP.mk | intro _))
  all_goals try (refine loop_at Nat 31 (fun x => [(5, .any), (31, .v (.int .i64 (c x)))]) (fun _ o => o) (fun x => ci x ≤ ci aL.length ∧ ∀ j, j < x → aL.getD j 0 = bL.getD j 0) (fun x => aL.length - x) 0 ?h0 ?hle ?round)
  case h0 => exact ⟨by simp [ci], fun j hj => absurd hj (Nat.not_lt_zero _)⟩
  case hle => (cbv; (repeat' (first | apply And.intro | apply BrB.mk | apply BrP.mk | intro _)); all_goals (subst hA; subst h_c; subst h_fm; subst h_fR); all_goals (have f_sa := SA.out; have f_sb := SB.out); all_goals (try simp only [std, stdBin, stdCmp, stdUna, stdIn, ci, beq_iff_eq, bne_iff_ne, beq_eq_false_iff_ne, bne_eq_false_iff_eq, decide_eq_true_eq, decide_eq_false_iff_not, Bool.not_true, Bool.not_false, Bool.not_eq_true', Bool.not_eq_false', Bool.not_not, tn0, tn1, tn2, tn3] at *); (all_goals first | exact True.intro | rfl | exact congrArg (Value.int .i64) (by omega)))
  case round =>
    intro x hx
    cbv
    (repeat' (first | apply And.intro | apply BrB.mk | apply BrP.mk | intro _))
    all_goals try (refine ⟨x + 1, ?i, ?le, ?mu⟩)
    case le => (cbv; (repeat' (first | apply And.intro | apply BrB.mk | apply BrP.mk | intro _)); all_goals (subst hA; subst h_c; subst h_fm; subst h_fR); all_goals (have f_sa := SA.out; have f_sb := SB.out); all_goals (try simp only [std, stdBin, stdCmp, stdUna, stdIn, ci, beq_iff_eq, bne_iff_ne, beq_eq_false_iff_ne, bne_eq_false_iff_eq, decide_eq_true_eq, decide_eq_false_iff_not, Bool.not_true, Bool.not_false, Bool.not_eq_true', Bool.not_eq_false', Bool.not_not, tn0, tn1, tn2, tn3] at *); (all_goals first | exact True.intro | rfl | exact congrArg (Value.int .i64) (by omega)))
    (all_goals (subst hA; subst h_c; subst h_fm; subst h_fR); all_goals (have f_sa := SA.out; have f_sb := SB.out); all_goals (try simp only [std, stdBin, stdCmp, stdUna, stdIn, ci, beq_iff_eq, bne_iff_ne, beq_eq_false_iff_ne, bne_eq_false_iff_eq, decide_eq_true_eq, decide_eq_false_iff_not, Bool.not_true, Bool.not_false, Bool.not_eq_true', Bool.not_eq_false', Bool.not_not, tn0, tn1, tn2, tn3] at *); all_goals (try omega))
    case i =>
      refine ⟨by omega, fun j hj => ?_⟩
      by_cases e : j = x
      · subst e; assumption
      · exact hx.2 j (by omega)
    all_goals (refine vb ?_; simp only [sameTnF, Bool.eq_false_iff, ne_eq, sameTn_iff, eqF, beq_iff_eq] at *)
    · rintro ⟨rfl, rfl, rfl⟩
      contradiction
    · exact ⟨by assumption, by assumption, eqL (by omega) fun j hj => hx.2 j (by omega)⟩
  (all_goals (subst hA; subst h_c; subst h_fm; subst h_fR); all_goals (have f_sa := SA.out; have f_sb := SB.out); all_goals (try simp only [std, stdBin, stdCmp, stdUna, stdIn, ci, beq_iff_eq, bne_iff_ne, beq_eq_false_iff_ne, bne_eq_false_iff_eq, decide_eq_true_eq, decide_eq_false_iff_not, Bool.not_true, Bool.not_false, Bool.not_eq_true', Bool.not_eq_false', Bool.not_not, tn0, tn1, tn2, tn3] at *); all_goals (try omega))
  all_goals (refine vb ?_; simp only [sameTnF, eqF, beq_iff_eq, beq_eq_false_iff_ne, Bool.eq_false_iff, ne_eq, sameTn_iff] at *; (rintro ⟨rfl, rfl, rfl⟩; first | omega | contradiction))
end Go.Proofs.Ytekokhlldcmjfaa
