/- Layer 16: the counterparts: the lengths of weights, of sums; the longest. -/
import Derived.Test.YtnjipnklbdlgaaaChkJ
namespace Go.Proofs.Ytnjipnklbdlgaaa
open Go.RowKit
set_option maxRecDepth 1000000
set_option linter.unusedSimpArgs false
set_option linter.unusedVariables false
set_option maxHeartbeats 16000000
set_option cbv.maxSteps 10000000
def dmV (k o w t : Int) : List Int := if k = 1 then [o, t] else if k = 2 then [o, t, w, w] else []
def dmN (k o : Int) : Int := if k = 1 ∨ k = 2 then o else 0
def dmVF (xa : List AV) : List Int := match xa with
  | [.st [.z k, .z o, .z w, .z s, .z p, .z f, .b z], .l t] => dmV k o w (t.getD 0 0)
  | _ => []
def dmNF (xa : List AV) : Int := match xa with
  | [.st [.z k, .z o, .z w, .z s, .z p, .z f, .b z], .l t] => dmN k o
  | _ => 0
def dmP (xa : List AV) : Prop := match xa with
  | [.st [.z k, .z o, .z w, .z s, .z p, .z f, .b z], .l t] => 1 ≤ t.length
  | _ => False
def rowIC (ts : List Ty) (tI : TypeId) (p : List AV → Prop) (r : List AV → List Int) (n : List AV → Int) : Ctr :=
  ⟨ts, fun xa => some (p xa), fun xa => .ret (.tup [.hdl 0, .v (.int .i64 (n xa))]) [(0, .irow tI .i64 (r xa))], false⟩
theorem rdims_ok : CtrOk Try.prog 41 (rowIC [layTy, .sl (.int .i64)] 3 dmP dmVF dmNF) := by
  obtain ⟨G, hG⟩ : ∃ G : List (FuncId × Ctr), G = [] := ⟨_, rfl⟩
  refine fn_ok (ck := true) Try.func41 rfl tt_ok (G := G) (by rw [hG]; exact trivial) mixed (by kernel_rfl) ?_
  intro xa xs h hx hp
  obtain ⟨a0, as0, x0, xs0, rfl, rfl, h0, H1⟩ := svArgs_cons h
  obtain ⟨a1, as1, x1, xs1, rfl, rfl, h1, H2⟩ := svArgs_cons H1
  obtain ⟨rfl, rfl⟩ := svArgs_nil H2
  obtain ⟨lk, lo, lw, ls, lp, lf, lz, rfl, rfl⟩ := argSV_lay h0
  obtain ⟨t, rfl, rfl⟩ := argSV_ints h1
  have sl : (-9223372036854775808 ≤ lk ∧ lk ≤ 9223372036854775807) ∧ (-9223372036854775808 ≤ lo ∧ lo ≤ 9223372036854775807) ∧ (-9223372036854775808 ≤ lw ∧ lw ≤ 9223372036854775807) ∧ (-9223372036854775808 ≤ ls ∧ ls ≤ 9223372036854775807) ∧ (-9223372036854775808 ≤ lp ∧ lp ≤ 9223372036854775807) ∧ (-9223372036854775808 ≤ lf ∧ lf ≤ 9223372036854775807) := svf_lay (hx (.agg [.v (.int .i64 lk), .v (.int .i64 lo), .v (.int .i64 lw), .v (.int .i64 ls), .v (.int .i64 lp), .v (.int .i64 lf), .v (.bool lz)]) (List.mem_of_getElem? (i := 0) rfl))
  have st : Fits .i64 t ∧ ci t.length ≤ 9223372036854775807 := svf_ints (hx (.iimm .i64 t) (by simp))
  have SL := Lib.hid sl
  clear sl
  have ST := Lib.hid st
  clear st
  have HP := Lib.hid (hp _ rfl)
  clear hx hp h h0 H1 h1 H2
  generalize hA : std = A
  subst hG
  generalize h_c : ci = c
  generalize h_fp : dmP = fp
  generalize h_fv : dmVF = fv
  generalize h_fn : dmNF = fn
  cbv
  (repeat' (first | apply And.intro | apply BrB.mk | apply BrP.mk | intro _))
  (all_goals (subst hA; subst h_c; subst h_fp; subst h_fv; subst h_fn); all_goals (have f_sl := SL.out; have f_st := ST.out; have f_hp := HP.out); all_goals (try simp only [std, stdBin, stdCmp, stdUna, stdIn, ci, beq_iff_eq, bne_iff_ne, beq_eq_false_iff_ne, bne_eq_false_iff_eq, decide_eq_true_eq, decide_eq_false_iff_not, Bool.not_true, Bool.not_false, Bool.not_eq_true', Bool.not_eq_false', Bool.not_not, tn0, tn1, tn2, tn3, dmVF, dmNF, dmP, dmV, dmN] at *); all_goals (try omega))
  all_goals (have q : 1 ≤ t.length := f_hp)
  all_goals first | omega | (simp_all; done) | trace_state
def lnV (k o w t g1 g2 b : Int) : List Int := if k = 1 then [t, o, b] else if k = 2 then [t * w * w, o * w * w, b * g1 * g2] else []
def lnF (xa : List AV) : List Int := match xa with
  | [.st [.z k, .z o, .z w, .z s, .z p, .z f, .b z], .l t, .l g, .z b] => lnV k o w (t.getD 0 0) (g.getD 1 0) (g.getD 2 0) b
  | _ => []
theorem rlens_ok : CtrOk Try.prog 43 (rowP [layTy, .sl (.int .i64), .sl (.int .i64), .int .i64] 3 .i64 prdP lnF) := by
  obtain ⟨G, hG⟩ : ∃ G : List (FuncId × Ctr), G = [] := ⟨_, rfl⟩
  refine fn_ok (ck := true) Try.func43 rfl tt_ok (G := G) (by rw [hG]; exact trivial) mixed (by kernel_rfl) ?_
  intro xa xs h hx hp
  obtain ⟨a0, as0, x0, xs0, rfl, rfl, h0, H1⟩ := svArgs_cons h
  obtain ⟨a1, as1, x1, xs1, rfl, rfl, h1, H2⟩ := svArgs_cons H1
  obtain ⟨a2, as2, x2, xs2, rfl, rfl, h2, H3⟩ := svArgs_cons H2
  obtain ⟨a3, as3, x3, xs3, rfl, rfl, h3, H4⟩ := svArgs_cons H3
  obtain ⟨rfl, rfl⟩ := svArgs_nil H4
  obtain ⟨lk, lo, lw, ls, lp, lf, lz, rfl, rfl⟩ := argSV_lay h0
  obtain ⟨t, rfl, rfl⟩ := argSV_ints h1
  obtain ⟨g, rfl, rfl⟩ := argSV_ints h2
  obtain ⟨b, rfl, rfl⟩ := argSV_int h3
  have sl : (-9223372036854775808 ≤ lk ∧ lk ≤ 9223372036854775807) ∧ (-9223372036854775808 ≤ lo ∧ lo ≤ 9223372036854775807) ∧ (-9223372036854775808 ≤ lw ∧ lw ≤ 9223372036854775807) ∧ (-9223372036854775808 ≤ ls ∧ ls ≤ 9223372036854775807) ∧ (-9223372036854775808 ≤ lp ∧ lp ≤ 9223372036854775807) ∧ (-9223372036854775808 ≤ lf ∧ lf ≤ 9223372036854775807) := svf_lay (hx (.agg [.v (.int .i64 lk), .v (.int .i64 lo), .v (.int .i64 lw), .v (.int .i64 ls), .v (.int .i64 lp), .v (.int .i64 lf), .v (.bool lz)]) (List.mem_of_getElem? (i := 0) rfl))
  have st : Fits .i64 t ∧ ci t.length ≤ 9223372036854775807 := svf_ints (hx (.iimm .i64 t) (by simp))
  have sg : Fits .i64 g ∧ ci g.length ≤ 9223372036854775807 := svf_ints (hx (.iimm .i64 g) (by simp))
  have sb := of_i64 (hx (.v (.int .i64 b)) (by simp))
  have SL := Lib.hid sl
  clear sl
  have ST := Lib.hid st
  clear st
  have SG := Lib.hid sg
  clear sg
  have SB := Lib.hid sb
  clear sb
  have HP := Lib.hid (hp _ rfl)
  clear hx hp h h0 H1 h1 H2 h2 H3 h3 H4
  generalize hA : std = A
  subst hG
  generalize h_c : ci = c
  generalize h_fp : prdP = fp
  generalize h_fv : lnF = fv
  cbv
  (repeat' (first | apply And.intro | apply BrB.mk | apply BrP.mk | intro _))
  (all_goals (subst hA; subst h_c; subst h_fp; subst h_fv); all_goals (have f_sl := SL.out; have f_st := ST.out; have f_sg := SG.out; have f_sb := SB.out; have f_hp := HP.out); all_goals (try simp only [std, stdBin, stdCmp, stdUna, stdIn, ci, beq_iff_eq, bne_iff_ne, beq_eq_false_iff_ne, bne_eq_false_iff_eq, decide_eq_true_eq, decide_eq_false_iff_not, Bool.not_true, Bool.not_false, Bool.not_eq_true', Bool.not_eq_false', Bool.not_not, tn0, tn1, tn2, tn3, lnF, lnV, prdP] at *); all_goals (try omega))
  all_goals (have q1 := mayD_len f_hp.2.1; have q2 := mayD_at f_hp.2.1 (i := 0) (by omega); have q3 := f_hp.1; unfold layN at q3)
  all_goals first
    | omega
    | (have m1 := mulI (a := t.getD 0 0) (b := lw) (A := 4096) (B := 5) (by omega) (by omega); have m2 := mulI (b := lw) (B := 5) m1 (by omega); have n1 := mulI (a := lo) (b := lw) (A := 8) (B := 5) (by omega) (by omega); have n2 := mulI (b := lw) (B := 5) n1 (by omega); have g1 := mayD_at f_hp.2.2.1 (i := 1) (by omega); have g2 := mayD_at f_hp.2.2.1 (i := 2) (by omega); have k1 := mulI (a := b) (b := g.getD 1 0) (A := 8) (B := 4096) (by omega) (by omega); have k2 := mulI (b := g.getD 2 0) (B := 4096) k1 (by omega); first | omega | (simp_all; done))
    | (simp_all; done)
    | trace_state
theorem mxx_le (a b : Int) : a ≤ mx a b ∧ b ≤ mx a b ∧ (mx a b = a ∨ mx a b = b) := by
  unfold mx; split <;> omega
theorem ln_fold {k o w t g1 g2 b a : Int} (ha : 0 ≤ a) : (lnV k o w t g1 g2 b).foldl mx a = mx a (prdV k o w t g1 g2 b) := by
  unfold lnV prdV
  split
  · simp only [List.foldl]
    have h1 := mxx_le a t; have h2 := mxx_le (mx a t) o; have h3 := mxx_le (mx (mx a t) o) b
    have h4 := mxx_le t o; have h5 := mxx_le (mx t o) b; have h6 := mxx_le a (mx (mx t o) b)
    omega
  · split
    · simp only [List.foldl]
      generalize t * w * w = X
      generalize o * w * w = Y
      generalize b * g1 * g2 = Z
      have h1 := mxx_le a X; have h2 := mxx_le (mx a X) Y; have h3 := mxx_le (mx (mx a X) Y) Z
      have h4 := mxx_le X Y; have h5 := mxx_le (mx X Y) Z; have h6 := mxx_le a (mx (mx X Y) Z)
      omega
    · simp only [List.foldl]
      have h1 := mxx_le a 0
      omega
theorem ln_fit {k o w t g1 g2 b : Int} (hk : k = 1 → 0 ≤ t ∧ 0 ≤ o ∧ 0 ≤ b) (hk2 : k = 2 → 0 ≤ t * w * w ∧ 0 ≤ o * w * w ∧ 0 ≤ b * g1 * g2) : (lnV k o w t g1 g2 b).all fitsN = fitsN (prdV k o w t g1 g2 b) := by
  rw [Bool.eq_iff_iff]
  unfold lnV prdV fitsN
  split
  · rename_i h
    have hh := hk h
    simp only [List.all_cons, List.all_nil, Bool.and_true, Bool.and_eq_true, decide_eq_true_eq]
    have h4 := mxx_le t o; have h5 := mxx_le (mx t o) b
    omega
  · split
    · rename_i _ h
      have hh := hk2 h
      simp only [List.all_cons, List.all_nil, Bool.and_true, Bool.and_eq_true, decide_eq_true_eq]
      generalize t * w * w = X at *
      generalize o * w * w = Y at *
      generalize b * g1 * g2 = Z at *
      have h4 := mxx_le X Y; have h5 := mxx_le (mx X Y) Z
      omega
    · simp
def dmI (x : Dat) (c h w : Int) (i : Nat) : List Int := dmV (layI x i 0) (layI x i 1) (layI x i 2) ((shT c h w x i).getD 0 0)
def lnI (c h w : Int) (x : Dat) (b : Int) (i : Nat) : List Int := lnV (layI x i 0) (layI x i 1) (layI x i 2) ((shT c h w x i).getD 0 0) ((shT c h w x (i + 1)).getD 1 0) ((shT c h w x (i + 1)).getD 2 0) b
/-- What the counterpart asks of a layer's room. -/
theorem dm_room {k o w : Int} {t : List Int} (hl : layN k o w) (ht : mayD t = true) : (0 < (dmV k o w (t.getD 0 0)).length ∧ mayD (dmV k o w (t.getD 0 0)) = false) ↔ 8192 < wgtV k o w (t.getD 0 0) := by
  have q1 := mayD_len ht
  have q2 := mayD_at ht (i := 0) (by omega)
  unfold layN at hl
  generalize t.getD 0 0 = z at q2
  unfold dmV wgtV
  by_cases h1 : k = 1
  · rw [if_pos h1, if_pos h1]
    have := hl.1 h1
    rw [← Bool.not_eq_true, mayD_iff]
    simp [prodFrom]
    omega
  · rw [if_neg h1, if_neg h1]
    by_cases h2 : k = 2
    · rw [if_pos h2, if_pos h2]
      have := hl.2 h2
      rw [← Bool.not_eq_true, mayD_iff]
      simp [prodFrom]
      omega
    · rw [if_neg h2, if_neg h2]
      simp
theorem longUp_nn (c h w : Int) (x : Dat) (b : Int) : ∀ k, 0 ≤ longUp c h w x b k
  | 0 => Int.le_refl _
  | k + 1 => by
    have h1 := longUp_nn c h w x b k
    unfold longUp
    have := mxx_le (longUp c h w x b k) (prdI c h w x b k)
    omega
def foldM (l : List Int) (a : Int) : Int := l.foldl mx a
theorem take_fold {l : List Int} {j : Nat} {a : Int} (h : j < l.length) : foldM (l.take (j + 1)) a = mx (foldM (l.take j) a) (l.getD j 0) := by
  unfold foldM
  rw [← List.take_append_getElem h, List.foldl_append, List.getD_eq_getElem?_getD, List.getElem?_eq_getElem h]
  rfl
theorem long_step {c h w : Int} {x : Dat} {b : Int} {k j : Nat} (hj : j = (lnI c h w x b k).length) : foldM ((lnI c h w x b k).take j) (longUp c h w x b k) = longUp c h w x b (k + 1) := by
  unfold foldM
  subst hj
  rw [List.take_length]
  unfold lnI
  rw [ln_fold (longUp_nn c h w x b k)]
  rfl
theorem lnV_len (k o w t g1 g2 b : Int) : (lnV k o w t g1 g2 b).length ≤ 3 := by
  unfold lnV; split <;> (try split) <;> simp
theorem rlong_ok : CtrOk Try.prog 18 (intC [mdlTy, .int .i64] .i64 longF) := by
  obtain ⟨G, hG⟩ : ∃ G : List (FuncId × Ctr), G = [(40, boolC [.int .i64, .int .i64, .int .i64] inF), (41, rowIC [layTy, .sl (.int .i64)] 3 dmP dmVF dmNF), (43, rowP [layTy, .sl (.int .i64), .sl (.int .i64), .int .i64] 3 .i64 prdP lnF), (42, intC [.sl (.int .i64)] .i64 szF), (28, boolC [.sl (.int .i64)] shMayF)] := ⟨_, rfl⟩
  refine fn_inl2 (ck := true) rfl [(13, shpC shpE shpN shpD)] ⟨⟨by unfold FnOk; kernel_rfl, rshapes_ok⟩, trivial⟩ [] trivial Try.func18 rfl tt_ok (G := G) (by rw [hG]; exact ⟨⟨rin10_ok, by unfold FnOk; kernel_rfl⟩, ⟨rdims_ok, by unfold FnOk; kernel_rfl⟩, ⟨rlens_ok, by unfold FnOk; kernel_rfl⟩, ⟨rsize_ok, by unfold FnOk; kernel_rfl⟩, ⟨rmay_ok, by unfold FnOk; kernel_rfl⟩, trivial⟩) mixed (by kernel_rfl) ?_
  intro xa xs h hx hp
  obtain ⟨a0, as0, x0, xs0, rfl, rfl, h0, H1⟩ := svArgs_cons h
  obtain ⟨a1, as1, x1, xs1, rfl, rfl, h1, H2⟩ := svArgs_cons H1
  obtain ⟨rfl, rfl⟩ := svArgs_nil H2
  obtain ⟨mc, mh, mw, mx, rfl, rfl⟩ := argSV_mdl h0
  obtain ⟨b, rfl, rfl⟩ := argSV_int h1
  have sm : (-9223372036854775808 ≤ mc ∧ mc ≤ 9223372036854775807) ∧ (-9223372036854775808 ≤ mh ∧ mh ≤ 9223372036854775807) ∧ (-9223372036854775808 ≤ mw ∧ mw ≤ 9223372036854775807) ∧ ((ci mx.ls.length ≤ 9223372036854775807) ∧ Wt (.sl layTy) mx) := svf_mdl (hx (.agg [.v (.int .i64 mc), .v (.int .i64 mh), .v (.int .i64 mw), .imm layTy mx]) (List.mem_of_getElem? (i := 0) rfl))
  have sb := of_i64 (hx (.v (.int .i64 b)) (by simp))
  have SM := Lib.hid sm
  clear sm
  have SB := Lib.hid sb
  clear sb
  clear hx hp h h0 H1 h1 H2
  generalize hA : std = A
  subst hG
  generalize h_c : ci = c
  generalize h_fe : shpE = fe
  generalize h_fN : shpN = fN
  generalize h_fD : shpD = fD
  generalize h_fi : inF = fi
  generalize h_fv : dmVF = fv
  generalize h_fn : dmNF = fn
  generalize h_fp : dmP = fp
  generalize h_fl : lnF = fl
  generalize h_pl : prdP = pl
  generalize h_fz : szF = fz
  generalize h_fm : shMayF = fm
  generalize h_gL : longF = gL
  obtain ⟨L, hL⟩ : ∃ L : Nat → Int, ∀ k, L k = longUp mc mh mw mx b k := ⟨_, fun _ => rfl⟩
  obtain ⟨T, hT⟩ : ∃ T : Nat → Nat → Int, ∀ k j, T k j = foldM ((lnI mc mh mw mx b k).take j) (longUp mc mh mw mx b k) := ⟨_, fun _ _ => rfl⟩
  have HL := Lib.hid hL
  have HT := Lib.hid hT
  clear hL hT
  cbv
  (repeat' (first | apply And.intro | apply BrB.mk | apply BrP.mk | intro _))
  (all_goals try (exfalso; (subst hA; subst h_c; subst h_fe; subst h_fN; subst h_fD; subst h_fi; subst h_fv; subst h_fn; subst h_fp; subst h_fl; subst h_pl; subst h_fz; subst h_fm; subst h_gL); (try simp only [std, stdBin, stdCmp, stdUna, stdIn, ci, beq_iff_eq, bne_iff_ne, beq_eq_false_iff_ne, bne_eq_false_iff_eq, decide_eq_true_eq, decide_eq_false_iff_not, Bool.not_true, Bool.not_false, Bool.not_eq_true', Bool.not_eq_false', Bool.not_not, tn0, tn1, tn2, tn3] at *); first | omega | contradiction))
  all_goals try (refine loop_at Nat 48 (fun k => [(4, .v (.int .i64 0)), (9, .v (.int .i64 (L k))), (10, .any), (11, .any), (12, .any), (13, .any), (15, .any), (48, .v (.int .i64 (c k)))]) (fun k o => o) (fun k => k ≤ mx.ls.length ∧ allTo (roomI mc mh mw mx b) k = true) (fun k => mx.ls.length - k) 0 ⟨Nat.zero_le _, rfl⟩ ?_ ?_
                 focus
                   show AS.le _ _
                   cbv
                   (repeat' (first | apply And.intro | apply BrB.mk | apply BrP.mk | intro _))
                   (all_goals (subst hA; subst h_c; subst h_fe; subst h_fN; subst h_fD; subst h_fi; subst h_fv; subst h_fn; subst h_fp; subst h_fl; subst h_pl; subst h_fz; subst h_fm; subst h_gL); all_goals (have f_sm := SM.out; have f_sb := SB.out); all_goals (try simp only [std, stdBin, stdCmp, stdUna, stdIn, ci, beq_iff_eq, bne_iff_ne, beq_eq_false_iff_ne, bne_eq_false_iff_eq, decide_eq_true_eq, decide_eq_false_iff_not, Bool.not_true, Bool.not_false, Bool.not_eq_true', Bool.not_eq_false', Bool.not_not, tn0, tn1, tn2, tn3] at *); all_goals (try omega))
                   all_goals first | exact True.intro | rfl | (rw [HL.out]; rfl)
                   done)
  all_goals try (rintro k ⟨hk, hE⟩; cbv; refine BrB.mk (fun gx => ?_) (fun gx => ?_))
  all_goals (repeat' (first | apply And.intro | apply BrB.mk | apply BrP.mk | intro _))
  all_goals try (refine loop_at Nat 104 (fun j => [(9, .v (.int .i64 (T k j))), (15, .any), (104, .v (.int .i64 (c j)))]) (fun j o => o) (fun j => j ≤ (lnI mc mh mw mx b k).length) (fun j => (lnI mc mh mw mx b k).length - j) 0 (Nat.zero_le _) ?_ ?_
                 focus
                   show AS.le _ _
                   cbv
                   (repeat' (first | apply And.intro | apply BrB.mk | apply BrP.mk | intro _))
                   (all_goals (subst hA; subst h_c; subst h_fe; subst h_fN; subst h_fD; subst h_fi; subst h_fv; subst h_fn; subst h_fp; subst h_fl; subst h_pl; subst h_fz; subst h_fm; subst h_gL); all_goals (have f_sm := SM.out; have f_sb := SB.out); all_goals (try simp only [std, stdBin, stdCmp, stdUna, stdIn, ci, beq_iff_eq, bne_iff_ne, beq_eq_false_iff_ne, bne_eq_false_iff_eq, decide_eq_true_eq, decide_eq_false_iff_not, Bool.not_true, Bool.not_false, Bool.not_eq_true', Bool.not_eq_false', Bool.not_not, tn0, tn1, tn2, tn3] at *); all_goals (try omega))
                   all_goals first | exact True.intro | rfl | (rw [HL.out, HT.out]; rfl)
                   done)
  all_goals try (intro j hj; cbv; refine BrB.mk (fun gj => ?_) (fun gj => ?_))
  all_goals (repeat' (first | apply And.intro | apply BrB.mk | apply BrP.mk | intro _))
  all_goals try first
    | (have _ : _ = true := gj; refine ⟨j + 1, ?_, ?_, ?_⟩)
    | (have _ : _ = true := gx; refine ⟨k + 1, ?_, ?_, ?_⟩)
  all_goals try (show AS.le _ _; cbv; (repeat' (first | apply And.intro | apply BrB.mk | apply BrP.mk | intro _)))
  (all_goals (subst hA; subst h_c; subst h_fe; subst h_fN; subst h_fD; subst h_fi; subst h_fv; subst h_fn; subst h_fp; subst h_fl; subst h_pl; subst h_fz; subst h_fm; subst h_gL); all_goals (have f_sm := SM.out; have f_sb := SB.out); all_goals (try simp only [std, stdBin, stdCmp, stdUna, stdIn, ci, beq_iff_eq, bne_iff_ne, beq_eq_false_iff_ne, bne_eq_false_iff_eq, decide_eq_true_eq, decide_eq_false_iff_not, Bool.not_true, Bool.not_false, Bool.not_eq_true', Bool.not_eq_false', Bool.not_not, tn0, tn1, tn2, tn3, inF, inB, longF, shpE, shpN, shpD, rowsD_at', rowsD_len, shp_len, dmVF, dmNF, dmP, lnF, prdP, shMayF, szF, Int.toNat_natCast] at *); all_goals (try omega))
  all_goals (try first | exact True.intro | exact congrArg (Value.int .i64) (Int.natCast_succ _).symm | omega)
  all_goals first
    | (have hv : longR mc mh mw mx b = 0 := long_a (by first | exact .inl (by assumption))
       first | (rw [hv]; done) | (show Value.int .i64 _ = Value.int .i64 (longR mc mh mw mx b); rw [hv]; done))
    | (have hz : (shpR mc mh mw mx).2 = 0 := (by assumption)
       obtain ⟨hm, hS⟩ := shpR_ok hz
       obtain ⟨m1, m2, m3, m4, m5⟩ := mdl_of hm
       have e0 : (((mx.ls.length + 1 : Nat) : Int) - 1).toNat = mx.ls.length := (by omega)
       have e5 : (shp mc mh mw mx mx.ls.length).getD mx.ls.length [] = shT mc mh mw mx mx.ls.length := shp_at (Nat.le_refl _)
       simp only [e0, e5, decide_eq_true_eq, decide_eq_false_iff_not] at *
       first
         | omega
         | (have hv : longR mc mh mw mx b = 0 := long_a (.inr (by omega))
            rw [hv]; done)
         | (have hv : longR mc mh mw mx b = 0 := long_b (by omega)
            rw [hv]; done)
         | (have hkn : k < mx.ls.length := (by omega)
            have e1 : ((k : Int) + 1).toNat = k + 1 := (by omega)
            have e3 : (shp mc mh mw mx mx.ls.length).getD k [] = shT mc mh mw mx k := shp_at (by omega)
            have e4 : (shp mc mh mw mx mx.ls.length).getD (k + 1) [] = shT mc mh mw mx (k + 1) := shp_at (by omega)
            have hl := lay_N (m5 k hkn)
            have y1 := shT_may hm hS k (by omega)
            have y2 := shT_may hm hS (k + 1) (by omega)
            have y3 := mayD_len y1
            have z1 := szD_in (shT mc mh mw mx k)
            have z2 := szD_in (shT mc mh mw mx (k + 1))
            have y4 := shT_three (c := mc) (h := mh) (w := mw) (x := mx) (i := k)
            have hdm := dm_room hl y1
            have hrm : roomI mc mh mw mx b k = decide (b * szD (shT mc mh mw mx k) ≤ 8192 ∧ b * szD (shT mc mh mw mx (k + 1)) ≤ 8192 ∧ wgtV (layI mx k 0) (layI mx k 1) (layI mx k 2) ((shT mc mh mw mx k).getD 0 0) ≤ 8192) := rfl
            have hln : lnI mc mh mw mx b k = lnV (layI mx k 0) (layI mx k 1) (layI mx k 2) ((shT mc mh mw mx k).getD 0 0) ((shT mc mh mw mx (k + 1)).getD 1 0) ((shT mc mh mw mx (k + 1)).getD 2 0) b := rfl
            have hl3 : (lnI mc mh mw mx b k).length ≤ 3 := lnV_len _ _ _ _ _ _ _
            unfold layI at hl hdm hrm hln y4
            simp only [e1, e3, e4, ← hln] at *
            have hb : 1 ≤ b ∧ b ≤ 8 := (by omega)
            have p1 := mulI (a := b) (b := szD (shT mc mh mw mx k)) (A := 8) (B := 8192) (by omega) (by omega)
            have p2 := mulI (a := b) (b := szD (shT mc mh mw mx (k + 1))) (A := 8) (B := 8192) (by omega) (by omega)
            first
              | omega
              | exact ⟨hl, y1, y2, y4, hb.1, hb.2⟩
              | (have hf : roomI mc mh mw mx b k = false := (by rw [hrm]; refine decide_eq_false ?_; first | omega | (have hq := hdm.1 ⟨by omega, by assumption⟩; omega))
                 have hv : longR mc mh mw mx b = 0 := long_c (allTo_false hkn hf)
                 rw [hv]; done)
              | (refine ⟨by omega, ?_⟩
                 have hn : ¬ 8192 < wgtV ((mx.at k).fld 0).z ((mx.at k).fld 1).z ((mx.at k).fld 2).z ((shT mc mh mw mx k).getD 0 0) := (fun q => by have q2 := hdm.2 q; first | omega | (obtain ⟨q3, q4⟩ := q2; simp_all))
                 have hf : roomI mc mh mw mx b k = true := (by rw [hrm]; refine decide_eq_true ?_; omega)
                 simp only [allTo, hE, hf, Bool.and_self])
              | (show _ = Value.int .i64 (T k (j + 1)); rw [HT.out k (j + 1), take_fold (by omega), ← HT.out]; rfl)
              | (show _ = Value.int .i64 (L (k + 1)); rw [HT.out, HL.out, long_step (by omega)]; done)
              | trace "X")
         | (have e : k = mx.ls.length := (by omega)
            subst e
            have hv : longR mc mh mw mx b = longUp mc mh mw mx b mx.ls.length := long_d hz ⟨by omega, by omega⟩ ⟨by omega, by omega, by omega⟩ hE
            rw [hv, HL.out]; done)
         | trace "Y")
end Go.Proofs.Ytnjipnklbdlgaaa
