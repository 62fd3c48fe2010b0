/- Layer 16: what a layer makes of what it takes; how much it has. -/
import Derived.Test.YtnjipnklbdlgaaaModA
namespace Go.Proofs.Ytnjipnklbdlgaaa
open Go.RowKit
set_option maxRecDepth 1000000
set_option linter.unusedSimpArgs false
set_option linter.unusedVariables false
set_option maxHeartbeats 8000000
set_option cbv.maxSteps 10000000
theorem mulI {a b A B : Int} (h : 0 ≤ a ∧ a ≤ A) (g : 0 ≤ b ∧ b ≤ B) : 0 ≤ a * b ∧ a * b ≤ A * B :=
  ⟨Int.mul_nonneg h.1 g.1, Int.mul_le_mul h.2 g.2 g.1 (by omega)⟩
/-- How many windows fit. -/
def outV (n k s p : Int) : Int := if (1 ≤ n ∧ n ≤ 16) ∧ (1 ≤ k ∧ k ≤ 5) ∧ (1 ≤ s ∧ s ≤ 4) ∧ 0 ≤ p ∧ p < k ∧ k ≤ n + 2 * p then (n + 2 * p - k).tdiv s + 1 else 0
def outF (xa : List AV) : Int := match xa with
  | [.z n, .z k, .z s, .z p] => outV n k s p
  | _ => 0
theorem tdiv_in {a b : Int} (h : 0 ≤ a) (g : 1 ≤ b) : 0 ≤ a.tdiv b ∧ a.tdiv b ≤ a := ⟨Int.tdiv_nonneg h (by omega), by
  rw [Int.tdiv_eq_ediv_of_nonneg h]; exact Int.ediv_le_self _ h⟩
theorem outV_in (n k s p : Int) : 0 ≤ outV n k s p ∧ outV n k s p ≤ 25 := by
  unfold outV
  split
  · rename_i h
    have := tdiv_in (a := n + 2 * p - k) (b := s) (by omega) (by omega)
    omega
  · omega
theorem out_ok : CtrOk Try.prog 73 (intC [.int .i64, .int .i64, .int .i64, .int .i64] .i64 outF) := by
  obtain ⟨G, hG⟩ : ∃ G : List (FuncId × Ctr), G = [] := ⟨_, rfl⟩
  refine fn_ok (ck := true) Try.func73 rfl tt_ok (G := G) (by rw [hG]; exact trivial) mixed (by kernel_rfl) ?_
  intro xa xs h hx hp
  obtain ⟨a0, as0, x0, xs0, rfl, rfl, h0, H1⟩ := svArgs_cons h
  obtain ⟨a1, as1, x1, xs1, rfl, rfl, h1, H2⟩ := svArgs_cons H1
  obtain ⟨a2, as2, x2, xs2, rfl, rfl, h2, H3⟩ := svArgs_cons H2
  obtain ⟨a3, as3, x3, xs3, rfl, rfl, h3, H4⟩ := svArgs_cons H3
  obtain ⟨rfl, rfl⟩ := svArgs_nil H4
  obtain ⟨n, rfl, rfl⟩ := argSV_int h0
  obtain ⟨k, rfl, rfl⟩ := argSV_int h1
  obtain ⟨s, rfl, rfl⟩ := argSV_int h2
  obtain ⟨p, rfl, rfl⟩ := argSV_int h3
  have sn := of_i64 (hx (.v (.int .i64 n)) (by simp))
  have sk := of_i64 (hx (.v (.int .i64 k)) (by simp))
  have ss := of_i64 (hx (.v (.int .i64 s)) (by simp))
  have sp := of_i64 (hx (.v (.int .i64 p)) (by simp))
  have SN := Lib.hid sn
  clear sn
  have SK := Lib.hid sk
  clear sk
  have SS := Lib.hid ss
  clear ss
  have SP := Lib.hid sp
  clear sp
  clear hx hp h h0 H1 h1 H2 h2 H3 h3 H4
  generalize hA : std = A
  subst hG
  generalize h_c : ci = c
  generalize h_fR : outF = fR
  cbv
  (repeat' (first | apply And.intro | apply BrB.mk | apply BrP.mk | intro _))
  (all_goals (subst hA; subst h_c; subst h_fR); all_goals (have f_sn := SN.out; have f_sk := SK.out; have f_ss := SS.out; have f_sp := SP.out); all_goals (try simp only [std, stdBin, stdCmp, stdUna, stdIn, ci, beq_iff_eq, bne_iff_ne, beq_eq_false_iff_ne, bne_eq_false_iff_eq, decide_eq_true_eq, decide_eq_false_iff_not, Bool.not_true, Bool.not_false, Bool.not_eq_true', Bool.not_eq_false', Bool.not_not, tn0, tn1, tn2, tn3, outF] at *); all_goals (try omega))
  all_goals (try (show Value.int .i64 _ = Value.int .i64 (outV n k s p); refine congrArg _ ?_; unfold outV; first | (rw [if_neg (by omega)]) | (rw [if_pos (by omega)])))
  all_goals (have q := tdiv_in (a := n + 2 * p - k) (b := s) (by omega) (by omega); rw [w64 (by omega) (by omega)])
  all_goals first | omega | rfl | trace_state
def prodMax : Int := 1023
def fitsN (n : Int) : Bool := decide (0 ≤ n ∧ n ≤ 959)
/-- How many weights. -/
def wgtV (k o w t : Int) : Int := if k = 1 then o * t else if k = 2 then o * t * w * w else 0
def mx (a b : Int) : Int := if b > a then b else a
def prdV (k o w t g1 g2 b : Int) : Int := if k = 1 then mx (mx t o) b else if k = 2 then mx (mx (t * w * w) (o * w * w)) (b * g1 * g2) else 0
def layN (k o w : Int) : Prop := (k = 1 → 1 ≤ o ∧ o ≤ 4096) ∧ (k = 2 → (1 ≤ o ∧ o ≤ 8) ∧ 1 ≤ w ∧ w ≤ 5)
def wgtF (xa : List AV) : Int := match xa with
  | [.st [.z k, .z o, .z w, .z s, .z p, .z f, .b z], .l t] => wgtV k o w (t.getD 0 0)
  | _ => 0
def wgtP (xa : List AV) : Prop := match xa with
  | [.st [.z k, .z o, .z w, .z s, .z p, .z f, .b z], .l t] => layN k o w ∧ mayD t = true
  | _ => False
theorem mayD_at {t : List Int} (h : mayD t = true) {i : Nat} (hi : i < t.length) : 1 ≤ t.getD i 0 ∧ t.getD i 0 ≤ 4096 := by
  have h1 := ((mayD_iff t).1 h).2.1 (t.getD i 0) (by
    rw [List.getD_eq_getElem?_getD, List.getElem?_eq_getElem hi]
    exact List.getElem_mem hi)
  exact h1
theorem mayD_len {t : List Int} (h : mayD t = true) : 1 ≤ t.length ∧ t.length ≤ 4 := by
  have := (mayD_iff t).1 h
  exact this.1
theorem wgt_ok : CtrOk Try.prog 65 (intP [layTy, .sl (.int .i64)] .i64 wgtP wgtF) := by
  obtain ⟨G, hG⟩ : ∃ G : List (FuncId × Ctr), G = [] := ⟨_, rfl⟩
  refine fn_ok (ck := true) Try.func65 rfl tt_ok (G := G) (by rw [hG]; exact trivial) mixed (by kernel_rfl) ?_
  intro xa xs h hx hp
  obtain ⟨a0, as0, x0, xs0, rfl, rfl, h0, H1⟩ := svArgs_cons h
  obtain ⟨a1, as1, x1, xs1, rfl, rfl, h1, H2⟩ := svArgs_cons H1
  obtain ⟨rfl, rfl⟩ := svArgs_nil H2
  obtain ⟨lk, lo, lw, ls, lp, lf, lz, rfl, rfl⟩ := argSV_lay h0
  obtain ⟨t, rfl, rfl⟩ := argSV_ints h1
  have sl : (-9223372036854775808 ≤ lk ∧ lk ≤ 9223372036854775807) ∧ (-9223372036854775808 ≤ lo ∧ lo ≤ 9223372036854775807) ∧ (-9223372036854775808 ≤ lw ∧ lw ≤ 9223372036854775807) ∧ (-9223372036854775808 ≤ ls ∧ ls ≤ 9223372036854775807) ∧ (-9223372036854775808 ≤ lp ∧ lp ≤ 9223372036854775807) ∧ (-9223372036854775808 ≤ lf ∧ lf ≤ 9223372036854775807) := svf_lay (hx (.agg [.v (.int .i64 lk), .v (.int .i64 lo), .v (.int .i64 lw), .v (.int .i64 ls), .v (.int .i64 lp), .v (.int .i64 lf), .v (.bool lz)]) (List.mem_of_getElem? (i := 0) rfl))
  have st : Fits .i64 t ∧ ci t.length ≤ 9223372036854775807 := svf_ints (hx (.iimm .i64 t) (by simp))
  have SL := Lib.hid sl
  clear sl
  have ST := Lib.hid st
  clear st
  have HP := Lib.hid (hp _ rfl)
  clear hx hp h h0 H1 h1 H2
  generalize hA : std = A
  subst hG
  generalize h_c : ci = c
  generalize h_fp : wgtP = fp
  generalize h_fR : wgtF = fR
  cbv
  (repeat' (first | apply And.intro | apply BrB.mk | apply BrP.mk | intro _))
  (all_goals (subst hA; subst h_c; subst h_fp; subst h_fR); all_goals (have f_sl := SL.out; have f_st := ST.out; have f_hp := HP.out); all_goals (try simp only [std, stdBin, stdCmp, stdUna, stdIn, ci, beq_iff_eq, bne_iff_ne, beq_eq_false_iff_ne, bne_eq_false_iff_eq, decide_eq_true_eq, decide_eq_false_iff_not, Bool.not_true, Bool.not_false, Bool.not_eq_true', Bool.not_eq_false', Bool.not_not, tn0, tn1, tn2, tn3, wgtF, wgtP] at *); all_goals (try omega))
  all_goals (have q1 := mayD_len f_hp.2; have q2 := mayD_at f_hp.2 (i := 0) (by omega); have q3 := f_hp.1; unfold layN at q3)
  all_goals first
    | omega
    | (have m1 := mulI (a := lo) (b := t.getD 0 0) (A := 4096) (B := 4096) (by omega) (by omega); first | omega | (show Value.int .i64 _ = Value.int .i64 (wgtV lk lo lw (t.getD 0 0)); unfold wgtV; simp_all))
    | (have m1 := mulI (a := lo) (b := t.getD 0 0) (A := 8) (B := 4096) (by omega) (by omega); have m2 := mulI (b := lw) (B := 5) m1 (by omega); have m3 := mulI (b := lw) (B := 5) m2 (by omega); first | omega | (show Value.int .i64 _ = Value.int .i64 (wgtV lk lo lw (t.getD 0 0)); unfold wgtV; simp_all))
    | (show Value.int .i64 _ = Value.int .i64 (wgtV lk lo lw (t.getD 0 0)); unfold wgtV; simp_all)
    | trace_state
def prdF (xa : List AV) : Int := match xa with
  | [.st [.z k, .z o, .z w, .z s, .z p, .z f, .b z], .l t, .l g, .z b] => prdV k o w (t.getD 0 0) (g.getD 1 0) (g.getD 2 0) b
  | _ => 0
def prdP (xa : List AV) : Prop := match xa with
  | [.st [.z k, .z o, .z w, .z s, .z p, .z f, .b z], .l t, .l g, .z b] => layN k o w ∧ mayD t = true ∧ mayD g = true ∧ (k = 2 → g.length = 3) ∧ 1 ≤ b ∧ b ≤ 8
  | _ => False
theorem prd_ok : CtrOk Try.prog 39 (intP [layTy, .sl (.int .i64), .sl (.int .i64), .int .i64] .i64 prdP prdF) := by
  obtain ⟨G, hG⟩ : ∃ G : List (FuncId × Ctr), G = [] := ⟨_, rfl⟩
  refine fn_ok (ck := true) Try.func39 rfl tt_ok (G := G) (by rw [hG]; exact trivial) mixed (by kernel_rfl) ?_
  intro xa xs h hx hp
  obtain ⟨a0, as0, x0, xs0, rfl, rfl, h0, H1⟩ := svArgs_cons h
  obtain ⟨a1, as1, x1, xs1, rfl, rfl, h1, H2⟩ := svArgs_cons H1
  obtain ⟨a2, as2, x2, xs2, rfl, rfl, h2, H3⟩ := svArgs_cons H2
  obtain ⟨a3, as3, x3, xs3, rfl, rfl, h3, H4⟩ := svArgs_cons H3
  obtain ⟨rfl, rfl⟩ := svArgs_nil H4
  obtain ⟨lk, lo, lw, ls, lp, lf, lz, rfl, rfl⟩ := argSV_lay h0
  obtain ⟨t, rfl, rfl⟩ := argSV_ints h1
  obtain ⟨g, rfl, rfl⟩ := argSV_ints h2
  obtain ⟨b, rfl, rfl⟩ := argSV_int h3
  have sl : (-9223372036854775808 ≤ lk ∧ lk ≤ 9223372036854775807) ∧ (-9223372036854775808 ≤ lo ∧ lo ≤ 9223372036854775807) ∧ (-9223372036854775808 ≤ lw ∧ lw ≤ 9223372036854775807) ∧ (-9223372036854775808 ≤ ls ∧ ls ≤ 9223372036854775807) ∧ (-9223372036854775808 ≤ lp ∧ lp ≤ 9223372036854775807) ∧ (-9223372036854775808 ≤ lf ∧ lf ≤ 9223372036854775807) := svf_lay (hx (.agg [.v (.int .i64 lk), .v (.int .i64 lo), .v (.int .i64 lw), .v (.int .i64 ls), .v (.int .i64 lp), .v (.int .i64 lf), .v (.bool lz)]) (List.mem_of_getElem? (i := 0) rfl))
  have st : Fits .i64 t ∧ ci t.length ≤ 9223372036854775807 := svf_ints (hx (.iimm .i64 t) (by simp))
  have sg : Fits .i64 g ∧ ci g.length ≤ 9223372036854775807 := svf_ints (hx (.iimm .i64 g) (by simp))
  have sb := of_i64 (hx (.v (.int .i64 b)) (by simp))
  have SL := Lib.hid sl
  clear sl
  have ST := Lib.hid st
  clear st
  have SG := Lib.hid sg
  clear sg
  have SB := Lib.hid sb
  clear sb
  have HP := Lib.hid (hp _ rfl)
  clear hx hp h h0 H1 h1 H2 h2 H3 h3 H4
  generalize hA : std = A
  subst hG
  generalize h_c : ci = c
  generalize h_fp : prdP = fp
  generalize h_fR : prdF = fR
  cbv
  (repeat' (first | apply And.intro | apply BrB.mk | apply BrP.mk | intro _))
  (all_goals (subst hA; subst h_c; subst h_fp; subst h_fR); all_goals (have f_sl := SL.out; have f_st := ST.out; have f_sg := SG.out; have f_sb := SB.out; have f_hp := HP.out); all_goals (try simp only [std, stdBin, stdCmp, stdUna, stdIn, ci, beq_iff_eq, bne_iff_ne, beq_eq_false_iff_ne, bne_eq_false_iff_eq, decide_eq_true_eq, decide_eq_false_iff_not, Bool.not_true, Bool.not_false, Bool.not_eq_true', Bool.not_eq_false', Bool.not_not, tn0, tn1, tn2, tn3, prdF, prdP] at *); all_goals (try omega))
  all_goals (have q1 := mayD_len f_hp.2.1; have q2 := mayD_at f_hp.2.1 (i := 0) (by omega); have q3 := f_hp.1; unfold layN at q3)
  all_goals first
    | omega
    | (have m1 := mulI (a := t.getD 0 0) (b := lw) (A := 4096) (B := 5) (by omega) (by omega); have m2 := mulI (b := lw) (B := 5) m1 (by omega); have n1 := mulI (a := lo) (b := lw) (A := 8) (B := 5) (by omega) (by omega); have n2 := mulI (b := lw) (B := 5) n1 (by omega); have g1 := mayD_at f_hp.2.2.1 (i := 1) (by omega); have g2 := mayD_at f_hp.2.2.1 (i := 2) (by omega); have k1 := mulI (a := b) (b := g.getD 1 0) (A := 8) (B := 4096) (by omega) (by omega); have k2 := mulI (b := g.getD 2 0) (B := 4096) k1 (by omega); first | omega | (show Value.int .i64 _ = Value.int .i64 (prdV lk lo lw (t.getD 0 0) (g.getD 1 0) (g.getD 2 0) b); unfold prdV; simp_all [mx]))
    | (show Value.int .i64 _ = Value.int .i64 (prdV lk lo lw (t.getD 0 0) (g.getD 1 0) (g.getD 2 0) b); unfold prdV; simp_all [mx])
    | trace_state
/-- Whether there is room. -/
def roomB (k o w : Int) (t g : List Int) (b : Int) : Bool := decide (b * szD t ≤ 8192 ∧ b * szD g ≤ 8192 ∧ wgtV k o w (t.getD 0 0) ≤ 8192)
def roomF (xa : List AV) : Bool := match xa with
  | [.st [.z k, .z o, .z w, .z s, .z p, .z f, .b z], .l t, .l g, .z b] => roomB k o w t g b
  | _ => false
def roomP (xa : List AV) : Prop := match xa with
  | [.st [.z k, .z o, .z w, .z s, .z p, .z f, .b z], .l t, .l g, .z b] => layN k o w ∧ mayD t = true ∧ 1 ≤ b ∧ b ≤ 8
  | _ => False
theorem room_ok : CtrOk Try.prog 38 (boolP [layTy, .sl (.int .i64), .sl (.int .i64), .int .i64] roomP roomF) := by
  obtain ⟨G, hG⟩ : ∃ G : List (FuncId × Ctr), G = [(61, intC [.sl (.int .i64)] .i64 szF), (65, intP [layTy, .sl (.int .i64)] .i64 wgtP wgtF)] := ⟨_, rfl⟩
  refine fn_inl (ck := true) [(64, Try.f64)] ⟨⟨Try.func64, by unfold FnOk; kernel_rfl, by kernel_rfl⟩, trivial⟩ Try.func38 rfl tt_ok (G := G) (by rw [hG]; exact ⟨⟨size_ok, by unfold FnOk; kernel_rfl⟩, ⟨wgt_ok, by unfold FnOk; kernel_rfl⟩, trivial⟩) mixed (by kernel_rfl) ?_
  intro xa xs h hx hp
  obtain ⟨a0, as0, x0, xs0, rfl, rfl, h0, H1⟩ := svArgs_cons h
  obtain ⟨a1, as1, x1, xs1, rfl, rfl, h1, H2⟩ := svArgs_cons H1
  obtain ⟨a2, as2, x2, xs2, rfl, rfl, h2, H3⟩ := svArgs_cons H2
  obtain ⟨a3, as3, x3, xs3, rfl, rfl, h3, H4⟩ := svArgs_cons H3
  obtain ⟨rfl, rfl⟩ := svArgs_nil H4
  obtain ⟨lk, lo, lw, ls, lp, lf, lz, rfl, rfl⟩ := argSV_lay h0
  obtain ⟨t, rfl, rfl⟩ := argSV_ints h1
  obtain ⟨g, rfl, rfl⟩ := argSV_ints h2
  obtain ⟨b, rfl, rfl⟩ := argSV_int h3
  have sl : (-9223372036854775808 ≤ lk ∧ lk ≤ 9223372036854775807) ∧ (-9223372036854775808 ≤ lo ∧ lo ≤ 9223372036854775807) ∧ (-9223372036854775808 ≤ lw ∧ lw ≤ 9223372036854775807) ∧ (-9223372036854775808 ≤ ls ∧ ls ≤ 9223372036854775807) ∧ (-9223372036854775808 ≤ lp ∧ lp ≤ 9223372036854775807) ∧ (-9223372036854775808 ≤ lf ∧ lf ≤ 9223372036854775807) := svf_lay (hx (.agg [.v (.int .i64 lk), .v (.int .i64 lo), .v (.int .i64 lw), .v (.int .i64 ls), .v (.int .i64 lp), .v (.int .i64 lf), .v (.bool lz)]) (List.mem_of_getElem? (i := 0) rfl))
  have st : Fits .i64 t ∧ ci t.length ≤ 9223372036854775807 := svf_ints (hx (.iimm .i64 t) (by simp))
  have sg : Fits .i64 g ∧ ci g.length ≤ 9223372036854775807 := svf_ints (hx (.iimm .i64 g) (by simp))
  have sb := of_i64 (hx (.v (.int .i64 b)) (by simp))
  have SL := Lib.hid sl
  clear sl
  have ST := Lib.hid st
  clear st
  have SG := Lib.hid sg
  clear sg
  have SB := Lib.hid sb
  clear sb
  have HP := Lib.hid (hp _ rfl)
  clear hx hp h h0 H1 h1 H2 h2 H3 h3 H4
  generalize hA : std = A
  subst hG
  generalize h_c : ci = c
  generalize h_fp : roomP = fp
  generalize h_fR : roomF = fR
  generalize h_fw : wgtF = fw
  generalize h_fq : wgtP = fq
  generalize h_fz : szF = fz
  cbv
  (repeat' (first | apply And.intro | apply BrB.mk | apply BrP.mk | intro _))
  (all_goals (subst hA; subst h_c; subst h_fp; subst h_fR; subst h_fw; subst h_fq; subst h_fz); all_goals (have f_sl := SL.out; have f_st := ST.out; have f_sg := SG.out; have f_sb := SB.out; have f_hp := HP.out); all_goals (try simp only [std, stdBin, stdCmp, stdUna, stdIn, ci, beq_iff_eq, bne_iff_ne, beq_eq_false_iff_ne, bne_eq_false_iff_eq, decide_eq_true_eq, decide_eq_false_iff_not, Bool.not_true, Bool.not_false, Bool.not_eq_true', Bool.not_eq_false', Bool.not_not, tn0, tn1, tn2, tn3, roomF, roomP, wgtF, wgtP, szF] at *); all_goals (try omega))
  all_goals (have k1 := szD_in t; have k2 := szD_in g; have m1 := mulI (a := b) (b := szD t) (A := 8) (B := 8192) (by omega) (by omega); have m2 := mulI (a := b) (b := szD g) (A := 8) (B := 8192) (by omega) (by omega))
  all_goals first
    | omega
    | exact ⟨f_hp.1, f_hp.2.1⟩
    | (refine vb ?_; show roomB lk lo lw t g b = _; unfold roomB; first | (rw [decide_eq_false_iff_not]; omega) | (rw [decide_eq_true_eq]; omega) | (rw [decide_eq_decide]; omega))
    | trace_state
end Go.Proofs.Ytnjipnklbdlgaaa
