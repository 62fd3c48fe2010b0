/- Layer 19: parts of a row. -/
import Derived.Test.YtdbfgcpohloabaaResU
namespace Go.Proofs.Ytdbfgcpohloabaa
open Go.RowKit
set_option maxRecDepth 100000
set_option linter.unusedSimpArgs false
set_option linter.unusedVariables false
set_option maxHeartbeats 4000000
/-- The greatest of the first, and of so many behind it. -/
def mxTo (l : List Int) : Nat → Int
  | 0 => l.getD 0 0
  | n + 1 => if l.getD (n + 1) 0 > mxTo l n then l.getD (n + 1) 0 else mxTo l n
theorem mxTo_ge (l : List Int) : ∀ n i, i ≤ n → l.getD i 0 ≤ mxTo l n
  | 0, i, h => by have : i = 0 := by omega
                  subst this; exact Int.le_refl _
  | n + 1, i, h => by
    unfold mxTo
    by_cases e : i = n + 1
    · subst e; split <;> omega
    · have := mxTo_ge l n i (by omega)
      split <;> omega
theorem mxTo_at (l : List Int) : ∀ n, ∃ i, i ≤ n ∧ mxTo l n = l.getD i 0
  | 0 => ⟨0, Nat.le_refl _, rfl⟩
  | n + 1 => by
    unfold mxTo
    split
    · exact ⟨n + 1, Nat.le_refl _, rfl⟩
    · obtain ⟨i, h1, h2⟩ := mxTo_at l n
      exact ⟨i, by omega, h2⟩
def mxF (xa : List AV) : Int := match xa with
  | [.l l] => mxTo l (l.length - 1)
  | _ => 0
def oneP (xa : List AV) : Prop := match xa with
  | [.l l] => 1 ≤ l.length
  | _ => False
theorem mx_ok : CtrOk Try.prog 31 (intP [.sl (.int .i8)] .i8 oneP mxF) := by
  obtain ⟨G, hG⟩ : ∃ G : List (FuncId × Ctr), G = [] := ⟨_, rfl⟩
  refine fn_ok (ck := true) Try.func31 rfl tt_ok (G := G) (by rw [hG]; exact trivial) mixed (by kernel_rfl) ?_
  intro xa xs h hx hp
  obtain ⟨a0, as0, x0, xs0, rfl, rfl, h0, H1⟩ := svArgs_cons h
  obtain ⟨rfl, rfl⟩ := svArgs_nil H1
  obtain ⟨l, rfl, rfl⟩ := argSV_ints h0
  have sl : Fits .i8 l ∧ ci l.length ≤ 9223372036854775807 := svf_ints (hx (.iimm .i8 l) (by simp))
  have SL := Lib.hid sl
  clear sl
  have HP := Lib.hid (hp _ rfl)
  clear hx hp h h0 H1
  subst hG
  generalize hA : std = A
  generalize h_c : ci = c
  generalize h_fR : mxF = fR
  obtain ⟨V, hV⟩ : ∃ V : Nat → Int, ∀ x, V x = mxTo l x := ⟨_, fun _ => rfl⟩
  have HV := Lib.hid hV
  clear hV
  cbv
  (repeat' (first | apply And.intro | apply BrB.mk | apply BrP.mk | intro _))
  all_goals try (refine loop_at Nat 12 (fun x => [(3, .v (.int .i8 (V x))), (4, .v (.int .i64 (c (x + 1))))]) (fun _ o => o) (fun x => x + 1 ≤ l.length) (fun x => l.length - x) 0 ?h0 ?hle ?round)
  case h0 =>
    have h : 1 ≤ l.length := HP.out
    exact h
  case hle =>
    cbv
    (repeat' (first | apply And.intro | apply BrB.mk | apply BrP.mk | intro _))
    (all_goals (subst hA; subst h_c; subst h_fR); all_goals (have f_sl := SL.out; have f_hp := HP.out); all_goals (try simp only [std, stdBin, stdCmp, stdUna, stdIn, ci, beq_iff_eq, bne_iff_ne, beq_eq_false_iff_ne, bne_eq_false_iff_eq, decide_eq_true_eq, decide_eq_false_iff_not, Bool.not_true, Bool.not_false, Bool.not_eq_true', Bool.not_eq_false', Bool.not_not, tn0, tn1, tn2, tn3] at *); all_goals (try omega))
    all_goals first | exact True.intro | rfl | skip
    all_goals (rw [HV.out]; rfl)
  case round =>
    intro x hx
    cbv
    (repeat' (first | apply And.intro | apply BrB.mk | apply BrP.mk | intro _))
    all_goals try (refine ⟨x + 1, ?i, ?le, ?mu⟩)
    case le =>
      cbv
      (repeat' (first | apply And.intro | apply BrB.mk | apply BrP.mk | intro _))
      (all_goals (subst hA; subst h_c; subst h_fR); all_goals (have f_sl := SL.out; have f_hp := HP.out); all_goals (try simp only [std, stdBin, stdCmp, stdUna, stdIn, ci, beq_iff_eq, bne_iff_ne, beq_eq_false_iff_ne, bne_eq_false_iff_eq, decide_eq_true_eq, decide_eq_false_iff_not, Bool.not_true, Bool.not_false, Bool.not_eq_true', Bool.not_eq_false', Bool.not_not, tn0, tn1, tn2, tn3] at *); all_goals (try omega))
      all_goals first | exact True.intro | rfl | skip
      rw [HV.out, HV.out, Int.toNat_natCast]
      rfl
    (all_goals (subst hA; subst h_c; subst h_fR); all_goals (have f_sl := SL.out; have f_hp := HP.out); all_goals (try simp only [std, stdBin, stdCmp, stdUna, stdIn, ci, beq_iff_eq, bne_iff_ne, beq_eq_false_iff_ne, bne_eq_false_iff_eq, decide_eq_true_eq, decide_eq_false_iff_not, Bool.not_true, Bool.not_false, Bool.not_eq_true', Bool.not_eq_false', Bool.not_not, tn0, tn1, tn2, tn3] at *); all_goals (try omega))
    refine congrArg (Value.int .i8) ?_
    rw [HV.out, show x = l.length - 1 by omega]
    rfl
  (all_goals (subst hA; subst h_c; subst h_fR); all_goals (have f_sl := SL.out; have f_hp := HP.out); all_goals (try simp only [std, stdBin, stdCmp, stdUna, stdIn, ci, beq_iff_eq, bne_iff_ne, beq_eq_false_iff_ne, bne_eq_false_iff_eq, decide_eq_true_eq, decide_eq_false_iff_not, Bool.not_true, Bool.not_false, Bool.not_eq_true', Bool.not_eq_false', Bool.not_not, tn0, tn1, tn2, tn3] at *); all_goals (try omega))
  all_goals (have h : 1 ≤ l.length := f_hp)
  all_goals (first | omega | contradiction)
/-- How far below, as they shift it. -/
def belI (far e : Int) : Int := if e < 0 then (if 15 < far.fdiv (2 ^ min (-e).toNat 64) then 15 else far.fdiv (2 ^ min (-e).toNat 64)) else (if 15 < far * 2 ^ (if 4 < e then 4 else e).toNat then 15 else far * 2 ^ (if 4 < e then 4 else e).toNat)
def belP (xa : List AV) : Prop := match xa with
  | [.z far, .z e] => 0 ≤ far ∧ far ≤ 255 ∧ -64 ≤ e ∧ e ≤ 64
  | _ => False
def belF (xa : List AV) : Int := match xa with
  | [.z far, .z e] => belI far e
  | _ => 0
theorem bel_in {far e : Int} (h : 0 ≤ far) : 0 ≤ belI far e ∧ belI far e ≤ 15 := by
  unfold belI
  split
  · have h2 : 0 ≤ far.fdiv (2 ^ min (-e).toNat 64) := by
      rw [Int.fdiv_eq_ediv_of_nonneg _ (Int.le_of_lt (Int.pow_pos (by decide)))]
      exact Int.ediv_nonneg h (Int.le_of_lt (Int.pow_pos (by decide)))
    generalize far.fdiv (2 ^ min (-e).toNat 64) = q at h2 ⊢
    split <;> omega
  · have h2 : 0 ≤ far * 2 ^ (if 4 < e then 4 else e).toNat := Int.mul_nonneg h (Int.le_of_lt (Int.pow_pos (by decide)))
    generalize far * 2 ^ (if 4 < e then 4 else e).toNat = q at h2 ⊢
    split <;> omega
theorem bel_mono {a b e : Int} (h0 : 0 ≤ a) (h : a ≤ b) : belI a e ≤ belI b e := by
  unfold belI
  split
  · have hp : (0 : Int) < 2 ^ min (-e).toNat 64 := Int.pow_pos (by decide)
    have h2 : a.fdiv (2 ^ min (-e).toNat 64) ≤ b.fdiv (2 ^ min (-e).toNat 64) := by
      rw [Int.fdiv_eq_ediv_of_nonneg _ (Int.le_of_lt hp), Int.fdiv_eq_ediv_of_nonneg _ (Int.le_of_lt hp)]
      exact Int.ediv_le_ediv hp h
    generalize a.fdiv (2 ^ min (-e).toNat 64) = q at h2 ⊢
    generalize b.fdiv (2 ^ min (-e).toNat 64) = r at h2 ⊢
    split <;> split <;> omega
  · have h2 : a * 2 ^ (if 4 < e then 4 else e).toNat ≤ b * 2 ^ (if 4 < e then 4 else e).toNat := Int.mul_le_mul_of_nonneg_right h (Int.le_of_lt (Int.pow_pos (by decide)))
    generalize a * 2 ^ (if 4 < e then 4 else e).toNat = q at h2 ⊢
    generalize b * 2 ^ (if 4 < e then 4 else e).toNat = r at h2 ⊢
    split <;> split <;> omega
theorem shl4 {f e : Int} (h : 0 ≤ f ∧ f ≤ 255) (he : e ≤ 64) : 0 ≤ f * 2 ^ (if 4 < e then 4 else e).toNat ∧ f * 2 ^ (if 4 < e then 4 else e).toNat ≤ 4080 := by
  have h1 := Nat.pow_le_pow_right (show 0 < 2 by decide) (show (if 4 < e then 4 else e).toNat ≤ 4 by split <;> omega)
  have h2 : ((2 ^ (if 4 < e then 4 else e).toNat : Nat) : Int) ≤ ((2 ^ 4 : Nat) : Int) := Int.ofNat_le.2 h1
  have h3 : (2 : Int) ^ (if 4 < e then 4 else e).toNat ≤ 16 := by simpa using h2
  have h4 : (0 : Int) < 2 ^ (if 4 < e then 4 else e).toNat := Int.pow_pos (by decide)
  exact mulB h.1 h.2 (by omega) h3
theorem bel_ok : CtrOk Try.prog 33 (intP [.int .i64, .int .i64] .i64 belP belF) := by
  obtain ⟨G, hG⟩ : ∃ G : List (FuncId × Ctr), G = [] := ⟨_, rfl⟩
  refine fn_ok (ck := true) Try.func33 rfl tt_ok (G := G) (by rw [hG]; exact trivial) mixed (by kernel_rfl) ?_
  intro xa xs h hx hp
  obtain ⟨a0, as0, x0, xs0, rfl, rfl, h0, H1⟩ := svArgs_cons h
  obtain ⟨a1, as1, x1, xs1, rfl, rfl, h1, H2⟩ := svArgs_cons H1
  obtain ⟨rfl, rfl⟩ := svArgs_nil H2
  obtain ⟨f, rfl, rfl⟩ := argSV_int h0
  obtain ⟨e, rfl, rfl⟩ := argSV_int h1
  have sf := of_i64 (hx (.v (.int .i64 f)) (by simp))
  have se := of_i64 (hx (.v (.int .i64 e)) (by simp))
  have SF := Lib.hid sf
  clear sf
  have SE := Lib.hid se
  clear se
  have HP := Lib.hid (hp _ rfl)
  clear hx hp h h0 H1 h1 H2
  subst hG
  generalize hA : std = A
  generalize h_c : ci = c
  generalize h_fR : belF = fR
  cbv
  (repeat' (first | apply And.intro | apply BrB.mk | apply BrP.mk | intro _))
  (all_goals (subst hA; subst h_c; subst h_fR); all_goals (have f_sf := SF.out; have f_se := SE.out; have f_hp := HP.out); all_goals (try simp only [std, stdBin, stdCmp, stdUna, stdIn, ci, beq_iff_eq, bne_iff_ne, beq_eq_false_iff_ne, bne_eq_false_iff_eq, decide_eq_true_eq, decide_eq_false_iff_not, Bool.not_true, Bool.not_false, Bool.not_eq_true', Bool.not_eq_false', Bool.not_not, tn0, tn1, tn2, tn3, belP] at *); all_goals (try omega))
  · show Value.int .i64 _ = Value.int .i64 (belI f e)
    unfold belI
    rw [if_pos (show e < 0 by assumption)]
    rfl
  · have := shl4 (f := f) (e := e) ⟨by omega, by omega⟩ (by omega)
    omega
  · show Value.int .i64 _ = Value.int .i64 (belI f e)
    unfold belI
    rw [if_neg (show ¬ e < 0 by assumption)]
/-- An exponent, cut. -/
def cutE (e : Int) : Int := if (if 64 < e then 64 else e) > -64 then (if 64 < e then 64 else e) else -64
theorem cutE_in (e : Int) : -64 ≤ cutE e ∧ cutE e ≤ 64 := by unfold cutE; split <;> split <;> omega
/-- What a number weighs. -/
def wtI (l : List Int) (e : Int) (i : Nat) : Int := 1 * 2 ^ (15 - belI (mxTo l (l.length - 1) - l.getD i 0) (cutE e)).toNat
def totI (l : List Int) (e : Int) : Nat → Int
  | 0 => 0
  | n + 1 => totI l e n + wtI l e n
def partI (l : List Int) (e : Int) (i : Nat) : Int := (wtI l e i * 127).tdiv (totI l e l.length)
def softL (l : List Int) (e : Int) : List Int := (List.range l.length).map (partI l e)
def softF (xa : List AV) : List Int := match xa with
  | [.l l, .z e] => if l.length < 1 ∨ l.length > 10 then [] else softL l e
  | _ => []
theorem far_in {l : List Int} (h : Fits .i8 l) {i : Nat} (hi : i < l.length) : 0 ≤ mxTo l (l.length - 1) - l.getD i 0 ∧ mxTo l (l.length - 1) - l.getD i 0 ≤ 255 := by
  have h1 := mxTo_ge l (l.length - 1) i (by omega)
  obtain ⟨k, _, h2⟩ := mxTo_at l (l.length - 1)
  have h3 := fits8 h k
  have h4 := fits8 h i
  omega
theorem wt_in {l : List Int} (h : Fits .i8 l) (e : Int) {i : Nat} (hi : i < l.length) : 1 ≤ wtI l e i ∧ wtI l e i ≤ 32768 := by
  unfold wtI
  have h1 := bel_in (e := cutE e) (far_in h hi).1
  generalize belI (mxTo l (l.length - 1) - l.getD i 0) (cutE e) = b at h1 ⊢
  have h2 := Nat.pow_le_pow_right (show 0 < 2 by decide) (show (15 - b).toNat ≤ 15 by omega)
  have h3 : ((2 ^ (15 - b).toNat : Nat) : Int) ≤ ((2 ^ 15 : Nat) : Int) := Int.ofNat_le.2 h2
  have h4 : (2 : Int) ^ (15 - b).toNat ≤ 32768 := by simpa using h3
  have h5 : (0 : Int) < 2 ^ (15 - b).toNat := Int.pow_pos (by decide)
  omega
theorem tot_in {l : List Int} (h : Fits .i8 l) (e : Int) : ∀ n, n ≤ l.length → (n : Int) ≤ totI l e n ∧ totI l e n ≤ (n : Int) * 32768
  | 0, _ => by simp [totI]
  | n + 1, hn => by
    have h1 := tot_in h e n (by omega)
    have h2 := wt_in h e (i := n) (by omega)
    show ((n + 1 : Nat) : Int) ≤ totI l e n + wtI l e n ∧ totI l e n + wtI l e n ≤ ((n + 1 : Nat) : Int) * 32768
    omega
theorem wt_tot {l : List Int} (h : Fits .i8 l) (e : Int) {i : Nat} : ∀ n, i < n → n ≤ l.length → wtI l e i ≤ totI l e n
  | 0, hi, _ => by omega
  | n + 1, hi, hn => by
    show wtI l e i ≤ totI l e n + wtI l e n
    have h1 := wt_in h e (i := n) (by omega)
    have h0 := tot_in h e n (by omega)
    by_cases he : i = n
    · subst he; omega
    · have := wt_tot h e (i := i) n (by omega) (by omega)
      omega
theorem part_eq {l : List Int} (h : Fits .i8 l) (e : Int) {i : Nat} (hi : i < l.length) : partI l e i = wtI l e i * 127 / totI l e l.length := by
  unfold partI
  have h1 := wt_in h e hi
  rw [Int.tdiv_eq_ediv_of_nonneg (by omega)]
theorem part_in {l : List Int} (h : Fits .i8 l) (e : Int) {i : Nat} (hi : i < l.length) : 0 ≤ partI l e i ∧ partI l e i ≤ 127 := by
  rw [part_eq h e hi]
  have h1 := wt_in h e hi
  have h2 := wt_tot h e l.length hi (Nat.le_refl _)
  have h3 : 0 < totI l e l.length := by omega
  constructor
  · exact Int.ediv_nonneg (by omega) (by omega)
  · refine Int.ediv_le_of_le_mul h3 ?_
    omega
theorem set_at {l : List Int} {j : Nat} {v : Int} (h : j < l.length) : (l.set j v).getD j 0 = v := by
  rw [List.getD_eq_getElem?_getD, List.getElem?_set_self h]; rfl
theorem mix_flip (f g h : Nat → Int) (N : Nat) : mixL f g N N = mixL g h N 0 := by rw [mixL_all, mixL_none]
theorem soft_ok : CtrOk Try.prog 20 (rowC [.sl (.int .i8), .int .i64] 3 .i64 softF) := by
  obtain ⟨G, hG⟩ : ∃ G : List (FuncId × Ctr), G = [(31, intP [.sl (.int .i8)] .i8 oneP mxF), (33, intP [.int .i64, .int .i64] .i64 belP belF)] := ⟨_, rfl⟩
  refine fn_ok (ck := true) Try.func20 rfl tt_ok (G := G) (by rw [hG]; exact ⟨⟨mx_ok, by unfold FnOk; kernel_rfl⟩, ⟨bel_ok, by unfold FnOk; kernel_rfl⟩, trivial⟩) mixed (by kernel_rfl) ?_
  intro xa xs h hx hp
  obtain ⟨a0, as0, x0, xs0, rfl, rfl, h0, H1⟩ := svArgs_cons h
  obtain ⟨a1, as1, x1, xs1, rfl, rfl, h1, H2⟩ := svArgs_cons H1
  obtain ⟨rfl, rfl⟩ := svArgs_nil H2
  obtain ⟨l, rfl, rfl⟩ := argSV_ints h0
  obtain ⟨e, rfl, rfl⟩ := argSV_int h1
  have sl : Fits .i8 l ∧ ci l.length ≤ 9223372036854775807 := svf_ints (hx (.iimm .i8 l) (by simp))
  have se := of_i64 (hx (.v (.int .i64 e)) (by simp))
  have SL := Lib.hid sl
  clear sl
  have SE := Lib.hid se
  clear se
  clear hx hp h h0 H1 h1 H2
  subst hG
  generalize hA : std = A
  generalize h_c : ci = c
  generalize h_fm : mxF = fm
  generalize h_pm : oneP = pm
  generalize h_fb : belF = fb
  generalize h_pb : belP = pb
  generalize h_fR : softF = fR
  obtain ⟨S, hS⟩ : ∃ S : Nat → List Int, ∀ j, S j = mixL (fun _ => 0) (wtI l e) l.length j := ⟨_, fun _ => rfl⟩
  obtain ⟨T, hT⟩ : ∃ S : Nat → List Int, ∀ j, S j = mixL (wtI l e) (partI l e) l.length j := ⟨_, fun _ => rfl⟩
  obtain ⟨V, hV⟩ : ∃ V : Nat → Int, ∀ x, V x = totI l e x := ⟨_, fun _ => rfl⟩
  have HS := Lib.hid hS
  have HT := Lib.hid hT
  have HV := Lib.hid hV
  clear hS hT hV
  cbv
  (repeat' (first | apply And.intro | apply BrB.mk | apply BrP.mk | intro _))
  all_goals try (refine loop_at Nat 31 (fun j => [(7, .v (.int .i64 (V j))), (8, .any), (9, .any), (31, .v (.int .i64 (c j)))]) (fun j o => o.set 0 (.irow 3 .i64 (S j))) (fun j => j ≤ l.length) (fun j => l.length - j) 0 (Nat.zero_le _) ?hle ?round)
  case hle =>
    cbv
    (repeat' (first | apply And.intro | apply BrB.mk | apply BrP.mk | intro _))
    (all_goals (subst hA; subst h_c; subst h_fm; subst h_pm; subst h_fb; subst h_pb; subst h_fR); all_goals (have f_sl := SL.out; have f_se := SE.out); all_goals (try simp only [std, stdBin, stdCmp, stdUna, stdIn, ci, beq_iff_eq, bne_iff_ne, beq_eq_false_iff_ne, bne_eq_false_iff_eq, decide_eq_true_eq, decide_eq_false_iff_not, Bool.not_true, Bool.not_false, Bool.not_eq_true', Bool.not_eq_false', Bool.not_not, tn0, tn1, tn2, tn3] at *); all_goals (try omega))
    all_goals first | exact True.intro | rfl | skip
    all_goals (first | (rw [HS.out, mixL_nil, Int.toNat_natCast]) | (rw [HV.out]; rfl))
  case round =>
    intro j hj
    cbv
    refine BrB.mk (fun gx => ?yx) (fun gx => ?nx)
    case yx =>
      (repeat' (first | apply And.intro | apply BrB.mk | apply BrP.mk | intro _))
      all_goals try (refine ⟨j + 1, ?jI, ?jL, ?jM⟩)
      case jL =>
        cbv
        (repeat' (first | apply And.intro | apply BrB.mk | apply BrP.mk | intro _))
        (all_goals (subst hA; subst h_c; subst h_fm; subst h_pm; subst h_fb; subst h_pb; subst h_fR); all_goals (have f_sl := SL.out; have f_se := SE.out); all_goals (try simp only [std, stdBin, stdCmp, stdUna, stdIn, ci, beq_iff_eq, bne_iff_ne, beq_eq_false_iff_ne, bne_eq_false_iff_eq, decide_eq_true_eq, decide_eq_false_iff_not, Bool.not_true, Bool.not_false, Bool.not_eq_true', Bool.not_eq_false', Bool.not_not, tn0, tn1, tn2, tn3, mxF, belF, Int.toNat_natCast] at *); all_goals (try omega))
        all_goals first | exact True.intro | rfl | skip
        (all_goals (have hc : (if (if 64 < e then 64 else e) > -64 then (if 64 < e then 64 else e) else -64) = cutE e := rfl; (try simp only [hc] at *)); all_goals (have hw : 1 * 2 ^ (15 - belI (mxTo l (l.length - 1) - l.getD j 0) (cutE e)).toNat = wtI l e j := rfl; (try simp only [hw] at *); have lS : (S j).length = l.length := (by rw [HS.out, mixL_len]); have eg := set_at (l := S j) (j := j) (v := wtI l e j) (by rw [lS]; omega); have w1 := wt_in f_sl.1 e (i := j) (by omega); have w2 := tot_in f_sl.1 e j (by omega); have w3 := far_in f_sl.1 (i := j) (by omega); have w4 := bel_in (e := cutE e) w3.1; have w5 := cutE_in e; (try simp only [eg, lS, List.length_set, HV.out] at *)))
        all_goals first | exact True.intro | rfl | skip
        rw [HS.out, HS.out]
        exact mixL_store (by omega) rfl
      (all_goals (subst hA; subst h_c; subst h_fm; subst h_pm; subst h_fb; subst h_pb; subst h_fR); all_goals (have f_sl := SL.out; have f_se := SE.out); all_goals (try simp only [std, stdBin, stdCmp, stdUna, stdIn, ci, beq_iff_eq, bne_iff_ne, beq_eq_false_iff_ne, bne_eq_false_iff_eq, decide_eq_true_eq, decide_eq_false_iff_not, Bool.not_true, Bool.not_false, Bool.not_eq_true', Bool.not_eq_false', Bool.not_not, tn0, tn1, tn2, tn3, mxF, belF, belP, Int.toNat_natCast] at *); all_goals (try omega))
      (all_goals (have hc : (if (if 64 < e then 64 else e) > -64 then (if 64 < e then 64 else e) else -64) = cutE e := rfl; (try simp only [hc] at *)); all_goals (have hw : 1 * 2 ^ (15 - belI (mxTo l (l.length - 1) - l.getD j 0) (cutE e)).toNat = wtI l e j := rfl; (try simp only [hw] at *); have lS : (S j).length = l.length := (by rw [HS.out, mixL_len]); have eg := set_at (l := S j) (j := j) (v := wtI l e j) (by rw [lS]; omega); have w1 := wt_in f_sl.1 e (i := j) (by omega); have w2 := tot_in f_sl.1 e j (by omega); have w3 := far_in f_sl.1 (i := j) (by omega); have w4 := bel_in (e := cutE e) w3.1; have w5 := cutE_in e; (try simp only [eg, lS, List.length_set, HV.out] at *)))
      all_goals (first | omega | (exact ⟨w3.1, w3.2, w5.1, w5.2⟩))
    case nx =>
      refine loop_at Nat 56 (fun j => [(10, .any), (11, .any), (56, .v (.int .i64 (c j)))]) (fun j o => o.set 0 (.irow 3 .i64 (T j))) (fun j => j ≤ l.length) (fun j => l.length - j) 0 (Nat.zero_le _) ?hle ?round
      case hle =>
        cbv
        (repeat' (first | apply And.intro | apply BrB.mk | apply BrP.mk | intro _))
        (all_goals (subst hA; subst h_c; subst h_fm; subst h_pm; subst h_fb; subst h_pb; subst h_fR); all_goals (have f_sl := SL.out; have f_se := SE.out); all_goals (try simp only [std, stdBin, stdCmp, stdUna, stdIn, ci, beq_iff_eq, bne_iff_ne, beq_eq_false_iff_ne, bne_eq_false_iff_eq, decide_eq_true_eq, decide_eq_false_iff_not, Bool.not_true, Bool.not_false, Bool.not_eq_true', Bool.not_eq_false', Bool.not_not, tn0, tn1, tn2, tn3] at *); all_goals (try omega))
        all_goals first | exact True.intro | rfl | skip
        rw [HS.out, HT.out, show j = l.length by omega]
        exact mix_flip _ _ _ _
      case round =>
        intro i hi
        cbv
        refine BrB.mk (fun gy => ?yy) (fun gy => ?ny)
        case yy =>
          (repeat' (first | apply And.intro | apply BrB.mk | apply BrP.mk | intro _))
          all_goals try (refine ⟨i + 1, ?iI, ?iL, ?iM⟩)
          case iL =>
            cbv
            (repeat' (first | apply And.intro | apply BrB.mk | apply BrP.mk | intro _))
            (all_goals (subst hA; subst h_c; subst h_fm; subst h_pm; subst h_fb; subst h_pb; subst h_fR); all_goals (have f_sl := SL.out; have f_se := SE.out); all_goals (try simp only [std, stdBin, stdCmp, stdUna, stdIn, ci, beq_iff_eq, bne_iff_ne, beq_eq_false_iff_ne, bne_eq_false_iff_eq, decide_eq_true_eq, decide_eq_false_iff_not, Bool.not_true, Bool.not_false, Bool.not_eq_true', Bool.not_eq_false', Bool.not_not, tn0, tn1, tn2, tn3, Int.toNat_natCast] at *); all_goals (try omega))
            all_goals first | exact True.intro | rfl | skip
            rw [HS.out, mixL_len] at gy
            have eT : (T i).getD i 0 = wtI l e i := by rw [HT.out, mixL_get _ _ (by omega), if_neg (Nat.lt_irrefl _)]
            have p1 := part_in f_sl.1 e (i := i) (by omega)
            have p2 : (wtI l e i * 127).tdiv (totI l e l.length) = partI l e i := rfl
            rw [eT, HV.out, show j = l.length by omega, p2, w64 (by omega) (by omega), HT.out, HT.out]
            exact mixL_store (by omega) rfl
          (all_goals (subst hA; subst h_c; subst h_fm; subst h_pm; subst h_fb; subst h_pb; subst h_fR); all_goals (have f_sl := SL.out; have f_se := SE.out); all_goals (try simp only [std, stdBin, stdCmp, stdUna, stdIn, ci, beq_iff_eq, bne_iff_ne, beq_eq_false_iff_ne, bne_eq_false_iff_eq, decide_eq_true_eq, decide_eq_false_iff_not, Bool.not_true, Bool.not_false, Bool.not_eq_true', Bool.not_eq_false', Bool.not_not, tn0, tn1, tn2, tn3, Int.toNat_natCast] at *); all_goals (try omega))
          all_goals (rw [HS.out, mixL_len] at gy; have eT : (T i).getD i 0 = wtI l e i := (by rw [HT.out, mixL_get _ _ (by omega), if_neg (Nat.lt_irrefl _)]); have lT : (T i).length = l.length := (by rw [HT.out, mixL_len]); have w1 := wt_in f_sl.1 e (i := i) (by omega); have w2 := tot_in f_sl.1 e l.length (Nat.le_refl _); have ej : j = l.length := (by omega); (try simp only [eT, lT, HV.out, ej] at *); omega)
        case ny =>
          (repeat' (first | apply And.intro | apply BrB.mk | apply BrP.mk | intro _))
          (all_goals (subst hA; subst h_c; subst h_fm; subst h_pm; subst h_fb; subst h_pb; subst h_fR); all_goals (have f_sl := SL.out; have f_se := SE.out); all_goals (try simp only [std, stdBin, stdCmp, stdUna, stdIn, ci, beq_iff_eq, bne_iff_ne, beq_eq_false_iff_ne, bne_eq_false_iff_eq, decide_eq_true_eq, decide_eq_false_iff_not, Bool.not_true, Bool.not_false, Bool.not_eq_true', Bool.not_eq_false', Bool.not_not, tn0, tn1, tn2, tn3] at *); all_goals (try omega))
          rw [HS.out, mixL_len] at gy
          show _ = if l.length < 1 ∨ l.length > 10 then [] else softL l e
          rw [if_neg (by omega), HT.out, show i = l.length by omega, mixL_all]
          rfl
  (all_goals (subst hA; subst h_c; subst h_fm; subst h_pm; subst h_fb; subst h_pb; subst h_fR); all_goals (have f_sl := SL.out; have f_se := SE.out); all_goals (try simp only [std, stdBin, stdCmp, stdUna, stdIn, ci, beq_iff_eq, bne_iff_ne, beq_eq_false_iff_ne, bne_eq_false_iff_eq, decide_eq_true_eq, decide_eq_false_iff_not, Bool.not_true, Bool.not_false, Bool.not_eq_true', Bool.not_eq_false', Bool.not_not, tn0, tn1, tn2, tn3, oneP] at *); all_goals (try omega))
  all_goals (show (if l.length < 1 ∨ l.length > 10 then [] else softL l e) = []; rw [if_pos (by omega)])
end Go.Proofs.Ytdbfgcpohloabaa
