/- Layer 16: what each layer gives. -/
import Derived.Test.YtnjipnklbdlgaaaChkA
namespace Go.Proofs.Ytnjipnklbdlgaaa
open Go.RowKit
set_option maxRecDepth 1000000
set_option linter.unusedSimpArgs false
set_option linter.unusedVariables false
set_option maxHeartbeats 8000000
set_option cbv.maxSteps 10000000
theorem argSV_rr {k : IntKind} {a : AV} {x : SV} (h : argSV (.sl (.sl (.int k))) a = some x) : ∃ d, a = .d d ∧ x = .imm (.sl (.int k)) d := by
  cases a <;> simp [argSV, svAV] at h
  exact ⟨_, rfl, h.symm⟩
/-- Nothing comes. -/
def mkNil (k : Int) (t : List Int) : Bool := decide ((k = 2 ∨ k = 3 ∨ k = 4) ∧ t.length ≠ 3)
def mkV (k o w s p : Int) (t : List Int) : List Int :=
  if k = 1 then [o] else if k = 2 then [o, outV (t.getD 1 0) w s p, outV (t.getD 2 0) w s p]
  else if k = 3 ∨ k = 4 then [t.getD 0 0, outV (t.getD 1 0) w s 0, outV (t.getD 2 0) w s 0] else if k = 6 then [szD t] else t
def mkOk (k w s p : Int) (t u : List Int) : Bool :=
  if k = 1 then decide (t.length = 1) else if k = 2 then decide (0 < outV (t.getD 1 0) w s p ∧ 0 < outV (t.getD 2 0) w s p)
  else if k = 3 ∨ k = 4 then decide (0 < outV (t.getD 1 0) w s 0 ∧ 0 < outV (t.getD 2 0) w s 0) else if k = 7 then t == u else true
def rowAt (d : Dat) (i : Nat) : List Int := (d.at i).ints
def lastR (d : Dat) : List Int := rowAt d (d.ls.length - 1)
def mkNilF (xa : List AV) : Bool := match xa with
  | [.st [.z k, .z o, .z w, .z s, .z p, .z f, .b z], .d d] => mkNil k (lastR d)
  | _ => false
def mkVF (xa : List AV) : List Int := match xa with
  | [.st [.z k, .z o, .z w, .z s, .z p, .z f, .b z], .d d] => mkV k o w s p (lastR d)
  | _ => []
def mkOkF (xa : List AV) : Bool := match xa with
  | [.st [.z k, .z o, .z w, .z s, .z p, .z f, .b z], .d d] => mkOk k w s p (lastR d) (rowAt d f.toNat)
  | _ => false
def mkP (xa : List AV) : Prop := match xa with
  | [.st [.z k, .z o, .z w, .z s, .z p, .z f, .b z], .d d] => (1 ≤ d.ls.length ∧ d.ls.length ≤ 13) ∧ (∀ i, i < d.ls.length → mayD (rowAt d i) = true) ∧ (k = 7 → 0 ≤ f ∧ f < d.ls.length)
  | _ => False
def mkC (tI : TypeId) (p : List AV → Prop) (nl : List AV → Bool) (v : List AV → List Int) (ok : List AV → Bool) : Ctr :=
  ⟨[layTy, .sl (.sl (.int .i64))], fun xa => some (p xa), fun xa => .ite (nl xa = true) (.ret (.tup [.v (.slice none 0 0), .v (.bool false)]) []) (.ret (.tup [.hdl 0, .v (.bool (ok xa))]) [(0, .irow tI .i64 (v xa))]), false⟩
theorem makes_ok : CtrOk Try.prog 32 (mkC 3 mkP mkNilF mkVF mkOkF) := by
  obtain ⟨G, hG⟩ : ∃ G : List (FuncId × Ctr), G = [(73, intC [.int .i64, .int .i64, .int .i64, .int .i64] .i64 outF), (61, intC [.sl (.int .i64)] .i64 szF), (62, boolC [.sl (.int .i64), .sl (.int .i64)] eqF), (31, rowP [.sl (.int .i64)] 3 .i64 (lenP 8) sameL)] := ⟨_, rfl⟩
  refine fn_inl (ck := true) [(60, Try.f60)] ⟨⟨Try.func60, by unfold FnOk; kernel_rfl, by kernel_rfl⟩, trivial⟩ Try.func32 rfl tt_ok (G := G) (by rw [hG]; exact ⟨⟨out_ok, by unfold FnOk; kernel_rfl⟩, ⟨size_ok, by unfold FnOk; kernel_rfl⟩, ⟨same_ok, by unfold FnOk; kernel_rfl⟩, ⟨cloneI_ok, by unfold FnOk; kernel_rfl⟩, trivial⟩) mixed (by kernel_rfl) ?_
  intro xa xs h hx hp
  obtain ⟨a0, as0, x0, xs0, rfl, rfl, h0, H1⟩ := svArgs_cons h
  obtain ⟨a1, as1, x1, xs1, rfl, rfl, h1, H2⟩ := svArgs_cons H1
  obtain ⟨rfl, rfl⟩ := svArgs_nil H2
  obtain ⟨lk, lo, lw, ls, lp, lf, lz, rfl, rfl⟩ := argSV_lay h0
  obtain ⟨d, rfl, rfl⟩ := argSV_rr h1
  have sl : (-9223372036854775808 ≤ lk ∧ lk ≤ 9223372036854775807) ∧ (-9223372036854775808 ≤ lo ∧ lo ≤ 9223372036854775807) ∧ (-9223372036854775808 ≤ lw ∧ lw ≤ 9223372036854775807) ∧ (-9223372036854775808 ≤ ls ∧ ls ≤ 9223372036854775807) ∧ (-9223372036854775808 ≤ lp ∧ lp ≤ 9223372036854775807) ∧ (-9223372036854775808 ≤ lf ∧ lf ≤ 9223372036854775807) := svf_lay (hx (.agg [.v (.int .i64 lk), .v (.int .i64 lo), .v (.int .i64 lw), .v (.int .i64 ls), .v (.int .i64 lp), .v (.int .i64 lf), .v (.bool lz)]) (List.mem_of_getElem? (i := 0) rfl))
  have sd : ci d.ls.length ≤ 9223372036854775807 ∧ Wt (.sl (.sl (.int .i64))) d := ⟨wtl_len (hx (.imm (.sl (.int .i64)) d) (List.mem_of_getElem? (i := 1) rfl)), hx (.imm (.sl (.int .i64)) d) (List.mem_of_getElem? (i := 1) rfl)⟩
  have SL := Lib.hid sl
  clear sl
  have SD := Lib.hid sd
  clear sd
  have HP := Lib.hid (hp _ rfl)
  clear hx hp h h0 H1 h1 H2
  generalize hA : std = A
  subst hG
  generalize h_c : ci = c
  generalize h_fp : mkP = fp
  generalize h_fn : mkNilF = fn
  generalize h_fv : mkVF = fv
  generalize h_fk : mkOkF = fk
  generalize h_fo : outF = fo
  generalize h_fz : szF = fz
  generalize h_fe : eqF = fe
  generalize h_fl : lenP 8 = fl
  generalize h_fs : sameL = fs
  cbv
  (repeat' (first | apply And.intro | apply BrB.mk | apply BrP.mk | intro _))
  (all_goals (subst hA; subst h_c; subst h_fp; subst h_fn; subst h_fv; subst h_fk; subst h_fo; subst h_fz; subst h_fe; subst h_fl; subst h_fs); all_goals (have f_sl := SL.out; have f_sd := SD.out; have f_hp := HP.out); all_goals (try simp only [std, stdBin, stdCmp, stdUna, stdIn, ci, beq_iff_eq, bne_iff_ne, beq_eq_false_iff_ne, bne_eq_false_iff_eq, decide_eq_true_eq, decide_eq_false_iff_not, Bool.not_true, Bool.not_false, Bool.not_eq_true', Bool.not_eq_false', Bool.not_not, tn0, tn1, tn2, tn3, mkNilF, mkVF, mkOkF, mkP, outF, szF, eqF, lenP, sameL, lastR, rowAt] at *); all_goals (try omega))
  all_goals (obtain ⟨q1, q2, q3⟩ := f_hp)
  all_goals (have e : ((d.ls.length : Int) - 1).toNat = d.ls.length - 1 := by omega)
  all_goals (simp only [e, mkNil, mkV, mkOk, decide_eq_true_eq] at *)
  all_goals (have ql := mayD_len (q2 (d.ls.length - 1) (by omega)))
  all_goals (generalize ht : (d.at (d.ls.length - 1)).ints = t at *)
  all_goals first | omega | (exfalso; omega) | (simp_all; done) | (refine vb ?_; rw [Bool.eq_iff_iff]; simp_all; done) | (refine vb ?_; rw [Bool.eq_iff_iff]; simp_all; omega) | trace_state
/-- Rows, as data. -/
def rowsD (L : List (List Int)) : Dat := .list (L.map std.ofInts)
def layI (x : Dat) (i j : Nat) : Int := ((x.at i).fld j).z
/-- What those up to a layer give. -/
def shp (c h w : Int) (x : Dat) : Nat → List (List Int)
  | 0 => [[c, h, w]]
  | i + 1 => shp c h w x i ++ [mkV (layI x i 0) (layI x i 1) (layI x i 2) (layI x i 3) (layI x i 4) ((shp c h w x i).getD i [])]
def shT (c h w : Int) (x : Dat) (i : Nat) : List Int := (shp c h w x i).getD i []
def shErr (c h w : Int) (x : Dat) (i : Nat) : Int :=
  if mkNil (layI x i 0) (shT c h w x i) = true ∨ mkOk (layI x i 0) (layI x i 2) (layI x i 3) (layI x i 4) (shT c h w x i) ((shp c h w x i).getD (layI x i 5).toNat []) = false then 2
  else if mayD (shT c h w x (i + 1)) = false then 1 else 0
/-- The first that is not 0, with its number. -/
def lowE (g : Nat → Int) : Nat → Nat → Int × Int
  | _, 0 => (0, 0)
  | i, f + 1 => if g i = 0 then lowE g (i + 1) f else ((i : Int) + 1, g i)
theorem lowE_skip {g : Nat → Int} {n : Nat} : ∀ k, k ≤ n → (∀ i, i < k → g i = 0) → lowE g 0 n = lowE g k (n - k)
  | 0, _, _ => rfl
  | k + 1, hk, h => by
    rw [lowE_skip k (by omega) fun i hi => h i (by omega), show n - k = (n - (k + 1)) + 1 by omega, lowE, if_pos (h k (by omega))]
theorem lowE_hit {g : Nat → Int} {n k : Nat} (hk : k < n) (h : ∀ i, i < k → g i = 0) (hg : g k ≠ 0) : lowE g 0 n = ((k : Int) + 1, g k) := by
  rw [lowE_skip k (by omega) h, show n - k = (n - (k + 1)) + 1 by omega, lowE, if_neg hg]
theorem lowE_none {g : Nat → Int} {n : Nat} (h : ∀ i, i < n → g i = 0) : lowE g 0 n = (0, 0) := by
  rw [lowE_skip n (Nat.le_refl _) h, Nat.sub_self, lowE]
theorem lowE_zero {g : Nat → Int} : ∀ (f i : Nat), (lowE g i f).2 = 0 → ∀ j, i ≤ j → j < i + f → g j = 0
  | 0, i, _, j, h1, h2 => by omega
  | f + 1, i, h, j, h1, h2 => by
    unfold lowE at h
    by_cases hg : g i = 0
    · rw [if_pos hg] at h
      by_cases e : j = i
      · subst e; exact hg
      · exact lowE_zero f (i + 1) h j (by omega) (by omega)
    · rw [if_neg hg] at h
      exact absurd h hg
def shpR (c h w : Int) (x : Dat) : Int × Int := if mdlB c h w x = true then lowE (shErr c h w x) 0 x.ls.length else (0, 1)
def shpE (xa : List AV) : Int := match xa with
  | [.st [.st [.z c, .z h, .z w], .d x]] => (shpR c h w x).2
  | _ => 0
def shpN (xa : List AV) : Int := match xa with
  | [.st [.st [.z c, .z h, .z w], .d x]] => (shpR c h w x).1
  | _ => 0
def shpD (xa : List AV) : Dat := match xa with
  | [.st [.st [.z c, .z h, .z w], .d x]] => rowsD (shp c h w x x.ls.length)
  | _ => .list []
def shpC (e n : List AV → Int) (d : List AV → Dat) : FCtr := ⟨[mdlTy], fun _ => none, fun xa => .ite (e xa = 0) (.ret (.tup [.imm (.sl (.int .i64)) (d xa), .v (.int .i64 0), .v (.int .i64 0)]) []) (.ret (.tup [.v (.slice none 0 0), .v (.int .i64 (n xa)), .v (.int .i64 (e xa))]) []), true⟩
theorem shp_len (c h w : Int) (x : Dat) : ∀ i, (shp c h w x i).length = i + 1
  | 0 => rfl
  | i + 1 => by rw [shp, List.length_append, shp_len c h w x i]; rfl
theorem rowsD_len (L : List (List Int)) : (rowsD L).ls.length = L.length := by
  simp [rowsD, Dat.ls]
theorem rowsD_at (L : List (List Int)) (i : Nat) : rowAt (rowsD L) i = L.getD i [] := by
  unfold rowAt rowsD Dat.at
  simp only [Dat.ls]
  rw [List.getD_eq_getElem?_getD, List.getElem?_map, List.getD_eq_getElem?_getD]
  cases h : L[i]? with
  | none => rfl
  | some x => exact ints_of _
theorem shp_get (c h w : Int) (x : Dat) {i j : Nat} (h1 : j ≤ i) : (shp c h w x (i + 1)).getD j [] = (shp c h w x i).getD j [] := by
  rw [shp, List.getD_eq_getElem?_getD, List.getElem?_append_left (by rw [shp_len]; omega), ← List.getD_eq_getElem?_getD]
theorem lastR_shp (c h w : Int) (x : Dat) (i : Nat) : lastR (rowsD (shp c h w x i)) = shT c h w x i := by
  unfold lastR shT
  rw [rowsD_at, rowsD_len, shp_len, Nat.add_sub_cancel]
theorem shT_succ (c h w : Int) (x : Dat) (i : Nat) : shT c h w x (i + 1) = mkV (layI x i 0) (layI x i 1) (layI x i 2) (layI x i 3) (layI x i 4) (shT c h w x i) := by
  have hl := shp_len c h w x i
  unfold shT
  rw [shp, List.getD_eq_getElem?_getD, List.getElem?_append_right (by omega), show i + 1 - (shp c h w x i).length = 0 by omega]
  rfl
theorem shp_at {c h w : Int} {x : Dat} : ∀ {i j : Nat}, j ≤ i → (shp c h w x i).getD j [] = shT c h w x j
  | 0, j, h => by
    have : j = 0 := by omega
    subst this; rfl
  | i + 1, j, h => by
    by_cases e : j = i + 1
    · subst e; rfl
    · rw [shp_get c _ w x (by omega), shp_at (by omega)]
theorem mdl_of {c h w : Int} {x : Dat} (hm : mdlB c h w x = true) : (1 ≤ c ∧ c ≤ 8) ∧ (1 ≤ h ∧ h ≤ 16) ∧ (1 ≤ w ∧ w ≤ 16) ∧ (1 ≤ x.ls.length ∧ x.ls.length ≤ 12) ∧ ∀ i, i < x.ls.length → layAt x i = true := by
  unfold mdlB in3B at hm
  simp only [Bool.and_eq_true] at hm
  obtain ⟨⟨h1, h2, h3⟩, h4, h5⟩ := hm
  have h1 := of_decide_eq_true h1
  have h2 := of_decide_eq_true h2
  have h3 := of_decide_eq_true h3
  have h4 := of_decide_eq_true h4
  refine ⟨h1, h2, h3, by omega, ?_⟩
  have key : ∀ {n : Nat}, allTo (layAt x) n = true → ∀ i, i < n → layAt x i = true := by
    intro n
    induction n with
    | zero => intro _ i hi; omega
    | succ n ih =>
      intro hh i hi
      simp only [allTo, Bool.and_eq_true] at hh
      by_cases e : i = n
      · subst e; first | exact hh.2 | exact hh.1
      · first | exact ih hh.1 i (by omega) | exact ih hh.2 i (by omega)
  exact key h5
theorem may_in3 {c h w : Int} (h1 : 1 ≤ c ∧ c ≤ 8) (h2 : 1 ≤ h ∧ h ≤ 16) (h3 : 1 ≤ w ∧ w ≤ 16) : mayD [c, h, w] = true := by
  refine (mayD_iff _).2 ⟨by simp, ?_, ?_⟩
  · intro x hx
    simp at hx
    rcases hx with rfl | rfl | rfl <;> omega
  · have m1 := mulI (a := c) (b := h) (A := 8) (B := 16) (by omega) (by omega)
    have m2 := mulI (b := w) (B := 16) m1 (by omega)
    simp only [prodFrom, List.foldl, Int.one_mul]
    omega
theorem shT_may {c h w : Int} {x : Dat} (hm : mdlB c h w x = true) {k : Nat} (hE : ∀ i, i < k → shErr c h w x i = 0) : ∀ j, j ≤ k → mayD (shT c h w x j) = true
  | 0, _ => by
    obtain ⟨h1, h2, h3, _⟩ := mdl_of hm
    exact may_in3 h1 h2 h3
  | j + 1, hj => by
    have := hE j (by omega)
    unfold shErr at this
    split at this
    · omega
    · split at this
      · omega
      · rename_i _ hh; simpa using hh
theorem shErr_two {c h w : Int} {x : Dat} {i : Nat} (h1 : mkNil (layI x i 0) (shT c h w x i) = true ∨ mkOk (layI x i 0) (layI x i 2) (layI x i 3) (layI x i 4) (shT c h w x i) ((shp c h w x i).getD (layI x i 5).toNat []) = false) : shErr c h w x i = 2 := by
  unfold shErr; rw [if_pos h1]
theorem shErr_one {c h w : Int} {x : Dat} {i : Nat} (h1 : mkNil (layI x i 0) (shT c h w x i) = false) (h2 : mkOk (layI x i 0) (layI x i 2) (layI x i 3) (layI x i 4) (shT c h w x i) ((shp c h w x i).getD (layI x i 5).toNat []) = true) (h3 : mayD (shT c h w x (i + 1)) = false) : shErr c h w x i = 1 := by
  unfold shErr; rw [if_neg (by rw [h1, h2]; simp), if_pos h3]
theorem shErr_zero {c h w : Int} {x : Dat} {i : Nat} (h1 : mkNil (layI x i 0) (shT c h w x i) = false) (h2 : mkOk (layI x i 0) (layI x i 2) (layI x i 3) (layI x i 4) (shT c h w x i) ((shp c h w x i).getD (layI x i 5).toNat []) = true) (h3 : mayD (shT c h w x (i + 1)) = true) : shErr c h w x i = 0 := by
  unfold shErr; rw [if_neg (by rw [h1, h2]; simp), if_neg (by rw [h3]; simp)]
theorem lay_seven {x : Dat} {i : Nat} (h : layAt x i = true) (h7 : layI x i 0 = 7) : 0 ≤ layI x i 5 ∧ layI x i 5 < (i : Int) + 1 := by
  unfold layAt layB at h
  unfold layI at h7 ⊢
  rw [h7] at h
  simp at h
  omega
theorem shpR_hit {c h w : Int} {x : Dat} {k : Nat} {e : Int} (hm : mdlB c h w x = true) (hk : k < x.ls.length) (hE : ∀ i, i < k → shErr c h w x i = 0) (he : shErr c h w x k = e) (hne : e ≠ 0) : shpR c h w x = ((k : Int) + 1, e) := by
  unfold shpR
  rw [if_pos hm, lowE_hit hk hE (by rw [he]; exact hne), he]
theorem shpR_all {c h w : Int} {x : Dat} (hm : mdlB c h w x = true) (hE : ∀ i, i < x.ls.length → shErr c h w x i = 0) : shpR c h w x = (0, 0) := by
  unfold shpR
  rw [if_pos hm, lowE_none hE]
theorem shpR_one {c h w : Int} {x : Dat} (hm : mdlB c h w x = false) : shpR c h w x = (0, 1) := by
  unfold shpR
  rw [if_neg (by rw [hm]; simp)]
theorem rowsD_app (L : List (List Int)) (l : List Int) : std.dapp (rowsD L) (.list [std.ofInts l]) = rowsD (L ++ [l]) := by
  simp [rowsD, std, Dat.ls]
theorem shapes_ok : FOk Try.prog 12 (shpC shpE shpN shpD) := by
  obtain ⟨G, hG⟩ : ∃ G : List (FuncId × Ctr), G = [(30, boolC [mdlTy] mdlF), (31, rowP [.sl (.int .i64)] 3 .i64 (lenP 8) sameL), (32, mkC 3 mkP mkNilF mkVF mkOkF), (33, boolC [.sl (.int .i64)] shMayF)] := ⟨_, rfl⟩
  refine fn_inlF (ck := true) [] trivial [] trivial Try.func12 rfl tt_ok (G := G) (by rw [hG]; exact ⟨⟨mmay_ok, by unfold FnOk; kernel_rfl⟩, ⟨cloneI_ok, by unfold FnOk; kernel_rfl⟩, ⟨makes_ok, by unfold FnOk; kernel_rfl⟩, ⟨shMay_ok, by unfold FnOk; kernel_rfl⟩, trivial⟩) mixed (by kernel_rfl) ?_
  intro xa xs h hx hp
  obtain ⟨a0, as0, x0, xs0, rfl, rfl, h0, H1⟩ := svArgs_cons h
  obtain ⟨rfl, rfl⟩ := svArgs_nil H1
  obtain ⟨mc, mh, mw, mx, rfl, rfl⟩ := argSV_mdl h0
  have sm : (-9223372036854775808 ≤ mc ∧ mc ≤ 9223372036854775807) ∧ (-9223372036854775808 ≤ mh ∧ mh ≤ 9223372036854775807) ∧ (-9223372036854775808 ≤ mw ∧ mw ≤ 9223372036854775807) ∧ ((ci mx.ls.length ≤ 9223372036854775807) ∧ Wt (.sl layTy) mx) := svf_mdl (hx (.agg [.v (.int .i64 mc), .v (.int .i64 mh), .v (.int .i64 mw), .imm layTy mx]) (List.mem_of_getElem? (i := 0) rfl))
  have SM := Lib.hid sm
  clear sm
  clear hx hp h h0 H1
  generalize hA : std = A
  subst hG
  generalize h_c : ci = c
  generalize h_fm : mdlF = fm
  generalize h_fp : mkP = fp
  generalize h_fn : mkNilF = fn
  generalize h_fv : mkVF = fv
  generalize h_fk : mkOkF = fk
  generalize h_fl : lenP 8 = fl
  generalize h_fs : sameL = fs
  generalize h_fe : shpE = fe
  generalize h_fN : shpN = fN
  generalize h_fD : shpD = fD
  generalize h_fd : shMayF = fd
  obtain ⟨S, hS⟩ : ∃ S : Nat → Dat, ∀ k, S k = rowsD (shp mc mh mw mx k) := ⟨_, fun _ => rfl⟩
  have HS := Lib.hid hS
  clear hS
  cbv
  (repeat' (first | apply And.intro | apply BrB.mk | apply BrP.mk | intro _))
  (all_goals try (exfalso; (subst hA; subst h_c; subst h_fm; subst h_fp; subst h_fn; subst h_fv; subst h_fk; subst h_fl; subst h_fs; subst h_fe; subst h_fN; subst h_fD; subst h_fd); (try simp only [std, stdBin, stdCmp, stdUna, stdIn, ci, beq_iff_eq, bne_iff_ne, beq_eq_false_iff_ne, bne_eq_false_iff_eq, decide_eq_true_eq, decide_eq_false_iff_not, Bool.not_true, Bool.not_false, Bool.not_eq_true', Bool.not_eq_false', Bool.not_not, tn0, tn1, tn2, tn3] at *); first | omega | contradiction))
  all_goals try (refine loop_nil (hR := ?hR) [.row 5 (.sl (.int .i64))] Nat 20 (fun k => [(2, .v (.slice none 0 0)), (3, .v (.int .i64 0)), (4, .v (.int .i64 0)), (5, .hdl 2), (6, .any), (7, .any), (8, .any), (9, .any), (16, .any), (20, .v (.int .i64 (c k)))]) (fun k o => o.set 2 (.srow 32 (.sl (.int .i64)) (S k))) (fun k => k ≤ mx.ls.length ∧ ∀ i, i < k → shErr mc mh mw mx i = 0) (fun k => mx.ls.length - k) 0 ?h0 ?hle ?round)
  case hR => exact True.intro
  case h0 => exact ⟨Nat.zero_le _, fun i hi => absurd hi (Nat.not_lt_zero _)⟩
  case hle =>
    cbv
    (repeat' (first | apply And.intro | apply BrB.mk | apply BrP.mk | intro _))
    (all_goals (subst hA; subst h_c; subst h_fm; subst h_fp; subst h_fn; subst h_fv; subst h_fk; subst h_fl; subst h_fs; subst h_fe; subst h_fN; subst h_fD; subst h_fd); all_goals (have f_sm := SM.out); all_goals (try simp only [std, stdBin, stdCmp, stdUna, stdIn, ci, beq_iff_eq, bne_iff_ne, beq_eq_false_iff_ne, bne_eq_false_iff_eq, decide_eq_true_eq, decide_eq_false_iff_not, Bool.not_true, Bool.not_false, Bool.not_eq_true', Bool.not_eq_false', Bool.not_not, tn0, tn1, tn2, tn3, sameL] at *); all_goals (try omega))
    all_goals first | exact True.intro | rfl | (rw [HS.out]; rfl) | trace_state
  case round =>
    rintro k ⟨hk, hE⟩
    cbv
    refine BrB.mk (fun gx => ?yx) (fun gx => ?nx)
    case yx =>
      (repeat' (first | apply And.intro | apply BrB.mk | apply BrP.mk | intro _))
      (all_goals try (exfalso; (subst hA; subst h_c; subst h_fm; subst h_fp; subst h_fn; subst h_fv; subst h_fk; subst h_fl; subst h_fs; subst h_fe; subst h_fN; subst h_fD; subst h_fd); (try simp only [std, stdBin, stdCmp, stdUna, stdIn, ci, beq_iff_eq, bne_iff_ne, beq_eq_false_iff_ne, bne_eq_false_iff_eq, decide_eq_true_eq, decide_eq_false_iff_not, Bool.not_true, Bool.not_false, Bool.not_eq_true', Bool.not_eq_false', Bool.not_not, tn0, tn1, tn2, tn3] at *); first | omega | contradiction))
      all_goals try (refine ⟨k + 1, ?jI, ?jL, ?jM⟩)
      case jL =>
        cbv
        (repeat' (first | apply And.intro | apply BrB.mk | apply BrP.mk | intro _))
        (all_goals (subst hA; subst h_c; subst h_fm; subst h_fp; subst h_fn; subst h_fv; subst h_fk; subst h_fl; subst h_fs; subst h_fe; subst h_fN; subst h_fD; subst h_fd); all_goals (have f_sm := SM.out); all_goals (try simp only [std, stdBin, stdCmp, stdUna, stdIn, ci, beq_iff_eq, bne_iff_ne, beq_eq_false_iff_ne, bne_eq_false_iff_eq, decide_eq_true_eq, decide_eq_false_iff_not, Bool.not_true, Bool.not_false, Bool.not_eq_true', Bool.not_eq_false', Bool.not_not, tn0, tn1, tn2, tn3, mkVF, HS.out, lastR_shp, rowsD_at, Int.toNat_natCast] at *); all_goals (try omega))
        all_goals first | exact True.intro | rfl | (exact rowsD_app _ _) | trace_state
      (all_goals (subst hA; subst h_c; subst h_fm; subst h_fp; subst h_fn; subst h_fv; subst h_fk; subst h_fl; subst h_fs; subst h_fe; subst h_fN; subst h_fD; subst h_fd); all_goals (have f_sm := SM.out); all_goals (try simp only [std, stdBin, stdCmp, stdUna, stdIn, ci, beq_iff_eq, bne_iff_ne, beq_eq_false_iff_ne, bne_eq_false_iff_eq, decide_eq_true_eq, decide_eq_false_iff_not, Bool.not_true, Bool.not_false, Bool.not_eq_true', Bool.not_eq_false', Bool.not_not, tn0, tn1, tn2, tn3, mdlF, mkNilF, mkVF, mkOkF, mkP, shMayF, shpE, shpN, shpD, HS.out, lastR_shp, rowsD_at, rowsD_len, shp_len, Int.toNat_natCast] at *); all_goals (try omega))
      all_goals (have hm : mdlB mc mh mw mx = true := by assumption)
      all_goals (obtain ⟨m1, m2, m3, m4, m5⟩ := mdl_of hm)
      all_goals (have hkn : k < mx.ls.length := by omega)
      all_goals first
        | (refine ⟨⟨by omega, by omega⟩, fun i hi => ?_, fun h7 => ?_⟩
           · rw [shp_at (by omega)]; exact shT_may hm hE i (by omega)
           · have q := lay_seven (m5 k hkn) h7
             unfold layI at q
             omega)
        | (refine ⟨by omega, fun i hi => ?_⟩
           by_cases e : i = k
           · subst e
             refine shErr_zero ?_ (by assumption) (by rw [shT_succ]; assumption)
             exact Bool.eq_false_iff.2 (by assumption)
           · exact hE i (by omega))
        | (have he : shErr mc mh mw mx k = 2 := shErr_two (by first | exact .inl (by assumption) | exact .inr (by assumption))
           have hR := shpR_hit hm hkn hE he (by decide)
           first | (rw [hR]; done) | (exfalso; have h2 : (shpR mc mh mw mx).2 = 2 := (by rw [hR]); omega))
        | (have he : shErr mc mh mw mx k = 1 := shErr_one (Bool.eq_false_iff.2 (by assumption)) (by assumption) (by rw [shT_succ]; assumption)
           have hR := shpR_hit hm hkn hE he (by decide)
           first | (rw [hR]; done) | (exfalso; have h2 : (shpR mc mh mw mx).2 = 1 := (by rw [hR]); omega))
        | (simp only [Dat.ls, List.length_cons, List.length_nil]; omega)
        | trace_state
    case nx =>
      (repeat' (first | apply And.intro | apply BrB.mk | apply BrP.mk | intro _))
      (all_goals (subst hA; subst h_c; subst h_fm; subst h_fp; subst h_fn; subst h_fv; subst h_fk; subst h_fl; subst h_fs; subst h_fe; subst h_fN; subst h_fD; subst h_fd); all_goals (have f_sm := SM.out); all_goals (try simp only [std, stdBin, stdCmp, stdUna, stdIn, ci, beq_iff_eq, bne_iff_ne, beq_eq_false_iff_ne, bne_eq_false_iff_eq, decide_eq_true_eq, decide_eq_false_iff_not, Bool.not_true, Bool.not_false, Bool.not_eq_true', Bool.not_eq_false', Bool.not_not, tn0, tn1, tn2, tn3, mdlF, shpE, shpN, shpD, HS.out, Int.toNat_natCast] at *); all_goals (try omega))
      all_goals (have hm : mdlB mc mh mw mx = true := by assumption)
      all_goals (have e : k = mx.ls.length := by omega)
      all_goals (subst e)
      all_goals (have hR := shpR_all hm hE)
      all_goals first | rfl | (rw [hR]; done) | (exfalso; have h2 : (shpR mc mh mw mx).2 = 0 := (by rw [hR]); omega) | trace_state
  (all_goals (subst hA; subst h_c; subst h_fm; subst h_fp; subst h_fn; subst h_fv; subst h_fk; subst h_fl; subst h_fs; subst h_fe; subst h_fN; subst h_fD; subst h_fd); all_goals (have f_sm := SM.out); all_goals (try simp only [std, stdBin, stdCmp, stdUna, stdIn, ci, beq_iff_eq, bne_iff_ne, beq_eq_false_iff_ne, bne_eq_false_iff_eq, decide_eq_true_eq, decide_eq_false_iff_not, Bool.not_true, Bool.not_false, Bool.not_eq_true', Bool.not_eq_false', Bool.not_not, tn0, tn1, tn2, tn3, mdlF, shpE, shpN, shpD, lenP] at *); all_goals (try omega))
  all_goals first | (show (3 : Int) * 8 ≤ _; decide) | (have hR := shpR_one (c := mc) (h := mh) (w := mw) (x := mx) (by assumption); first | (rw [hR]; done) | (exfalso; have h2 : (shpR mc mh mw mx).2 = 1 := (by rw [hR]); omega)) | trace_state
end Go.Proofs.Ytnjipnklbdlgaaa
