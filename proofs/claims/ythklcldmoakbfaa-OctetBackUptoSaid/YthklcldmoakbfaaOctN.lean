/- Layer 3: a reader's methods that give bytes. -/
import Derived.Test.YthklcldmoakbfaaOctM
namespace Go.Proofs.Ythklcldmoakbfaa
open Go.RowKit
set_option maxRecDepth 20000
set_option linter.unusedSimpArgs false
set_option linter.unusedVariables false
set_option maxHeartbeats 16000000
set_option cbv.maxSteps 10000000
/-- The bytes that are taken. -/
def rwOk (n e wd : Int) : Bool := decide (0 ≤ wd ∧ e = 0 ∧ wd ≤ n)
def rwL (l : List Int) (a n e wd : Int) : List Int := if 0 ≤ wd ∧ e = 0 ∧ wd ≤ n then std.lsub l a wd else []
def rwA (a n e wd : Int) : Int := if 0 ≤ wd then rdA a n e wd else a
def rwN (n e wd : Int) : Int := if 0 ≤ wd then rdN n e wd else n
def rwE (n e wd : Int) : Int := if 0 ≤ wd then rdE n e wd else e
def rwOs (p : RdP) : List SO := [.cells 56 [.sub 1 (rwA p.a p.n p.e p.wd) (rwN p.n p.e p.wd), .v (.int .i64 (rwE p.n p.e p.wd))], .irow 5 .u8 p.l, .irow 5 .u8 (rwL p.l p.a p.n p.e p.wd)]
def rwX (p : RdP) : SV := .hdl 2
theorem raw_mth : RunOk Try.prog false 18 (mrun (rdMt) (fun p => smI p.n) (rwX) (rwOs) []) := by
  obtain ⟨G, hG⟩ : ∃ G : List (FuncId × Ctr), G = [(32, rowP [.sl (.int .u8)] 5 .u8 (lenP 1) sameL)] := ⟨_, rfl⟩
  refine mth_ok (ck := false) [] iok_nil [(35, Try.f35)] ⟨⟨Try.func35, by unfold FnOk; kernel_rfl, by kernel_rfl⟩, trivial⟩ (by unfold FnOk; kernel_rfl) Try.func18 rfl tt_ok (G := G) (by rw [hG]; exact ⟨⟨cloneB_ok, by unfold FnOk; kernel_rfl⟩, trivial⟩) mixed (by kernel_rfl) (rdArgs) (rdOs0) [.slot 0 5 .u8] [.sub 0 0 1] rfl (fun _ => by simp [rdOs0]) rdMt_ok ?_
  intro p hp hs
  obtain ⟨l, a, n, e, wd⟩ := p
  obtain ⟨g, r, w, us, h1, h2⟩ := hs
  have HS := Lib.hid (rd_facts h2)
  have hp : n ≤ 140737488355328 := hp
  have HP := Lib.hid hp
  clear hp h1 h2
  dsimp only [rdArgs, rdOs0, rwOs, rwX] at *
  generalize hA : std = A
  subst hG
  generalize h_c : ci = c
  generalize h_fL : rwL = fL
  generalize h_fA : rwA = fA
  generalize h_fN : rwN = fN
  generalize h_fE : rwE = fE
  generalize h_fl : lenP 1 = fl
  generalize h_fc : sameL = fc
  cbv
  (repeat' (first | apply And.intro | apply BrB.mk | apply BrP.mk | intro _))
  (all_goals (subst hA; subst h_c; subst h_fL; subst h_fA; subst h_fN; subst h_fE; subst h_fl; subst h_fc); all_goals (have f_hs := HS.out; have f_hp := HP.out); all_goals (try simp only [std, stdBin, stdCmp, stdUna, stdIn, ci, beq_iff_eq, bne_iff_ne, beq_eq_false_iff_ne, bne_eq_false_iff_eq, decide_eq_true_eq, decide_eq_false_iff_not, Bool.not_true, Bool.not_false, Bool.not_eq_true', Bool.not_eq_false', Bool.not_not, tn0, tn1, tn2, tn3, lenP, sameL] at *); all_goals (try omega))
  all_goals (have z1 : (wd - 0).toNat = wd.toNat := (by omega); have z2 : (a + 0).toNat = a.toNat := (by omega))
  all_goals first
      | omega
      | (show Value.int .i64 _ = Value.int .i64 _; refine congrArg (Value.int .i64) ?_; simp only [rwE, rdE]; repeat' split; all_goals omega)
      | (show _ = rwA a n e wd; simp only [rwA, rdA]; repeat' split; all_goals omega)
      | (show _ = rwN n e wd; simp only [rwN, rdN]; repeat' split; all_goals omega)
      | (show [] = rwL l a n e wd; unfold rwL; rw [if_neg (by omega)])
      | (show _ = rwL l a n e wd; unfold rwL; rw [if_pos ⟨by omega, by omega, by omega⟩, z1, z2]; rfl)
      | (rw [z1, z2]; have z3 := List.length_take_le wd.toNat (List.drop a.toNat l); omega)
      | trace_state
def mx0 (n : Int) : Int := if n > 0 then n else 0
theorem mx0_eq (n : Int) : (if n > 0 then n else 0) = mx0 n := rfl
/-- The reference's reader. -/
structure RmP where
  l : List Int
  e : Int
  wd : Int
def rmMt (args : List SV) (ob : Nat → SO) : Option (RmP × List Nat) := match args with
  | [.ptr i o, .v (.int .i64 wd)] => match o with
    | 0 => match ob i with
      | .cells t [.iimm .u8 l, .v (.int .i64 e)] => match Nat.beq t 33 with
        | true => some (⟨l, e, wd⟩, [i])
        | false => none
      | _ => none
    | _ + 1 => none
  | _ => none
def rmOk (l : List Int) (e wd : Int) : Prop := e = 0 ∧ mx0 wd ≤ l.length
def rmL (l : List Int) (e wd : Int) : List Int := if e = 0 ∧ mx0 wd ≤ l.length then std.lsub l (mx0 wd) (l.length - mx0 wd) else []
def rmE (l : List Int) (e wd : Int) : Int := if e = 0 ∧ mx0 wd ≤ l.length then 0 else 4
def rmR (l : List Int) (e wd : Int) : List Int := if e = 0 ∧ mx0 wd ≤ l.length then std.lsub l 0 (mx0 wd) else []
def rmV (l : List Int) (e wd : Int) : Int := if e = 0 ∧ mx0 wd ≤ l.length then gF l 0 wd.toNat else 0
def rmArgs (p : RmP) : List SV := [.ptr 0 0, .v (.int .i64 p.wd)]
def rmOs0 (p : RmP) : List SO := [.cells 33 [.iimm .u8 p.l, .v (.int .i64 p.e)]]
def rmOs (p : RmP) : List SO := [.cells 33 [.iimm .u8 (rmL p.l p.e p.wd), .v (.int .i64 (rmE p.l p.e p.wd))], .irow 5 .u8 (rmR p.l p.e p.wd)]
def rmX (p : RmP) : SV := .hdl 1
def rmOsN (p : RmP) : List SO := [.cells 33 [.iimm .u8 (rmL p.l p.e p.wd), .v (.int .i64 (rmE p.l p.e p.wd))]]
def rmXN (p : RmP) : SV := .v (.int .u64 (rmV p.l p.e p.wd))
theorem rmMt_ok (args : List SV) (ob : Nat → SO) (p : RmP) (ms : List Nat) (h : rmMt args ob = some (p, ms)) : MtOk rmMt rmArgs rmOs0 args ob p ms := by
  unfold rmMt at h
  split at h
  · rename_i i o wd
    cases o with
    | succ o => simp only at h; cases h
    | zero =>
    simp only at h
    split at h
    · rename_i t l e hi
      cases ht : Nat.beq t 33 with
      | false => rw [ht] at h; cases h
      | true =>
        rw [ht] at h
        have ht := Nat.eq_of_beq_eq_true ht
        subst ht
        cases h
        refine ⟨fun n => rfl, rfl, fun n k hk => ?_, fun k hk => ?_, fun k hk => ?_⟩
        · match k, hk with
          | 0, _ => exact hi
        · match k, hk with
          | 0, _ => simp [rmOs0]
        · match k, hk with
          | 0, _ => simp [lookI]
    · cases h
  · cases h
theorem rm_facts {g : World} {r : Nat → Option Value} {w : World} {t : TypeId} {l : List Int} {e : Int} (h : ∀ k, k < 1 → ∃ q, r k = some q ∧ (([.cells t [.iimm .u8 l, .v (.int .i64 e)]] : List SO).getD k .gone).Is g r w 0 q) : Fits .u8 l ∧ ci l.length ≤ 9223372036854775807 := by
  obtain ⟨q0, h1, h2⟩ := h 0 (by decide)
  obtain ⟨b, cs, _, _, _, h5⟩ := h2
  simp only [LsIs] at h5
  obtain ⟨u, us, e1, h6, _⟩ := h5
  exact svf_ints (svf_is h6)
theorem mx0_nn (n : Int) : 0 ≤ mx0 n := by unfold mx0; split <;> omega
theorem gF_congr {l m : List Int} {a b : Int} : ∀ k : Nat, (∀ i : Nat, i < k → l.getD (a + (i : Int)).toNat 0 = m.getD (b + (i : Int)).toNat 0) → gF l a k = gF m b k
  | 0, _ => rfl
  | k + 1, h => by
    show stdBin .or .u64 (stdBin .shl .u64 (gF l a k) 8) (l.getD (a + (k : Int)).toNat 0) = stdBin .or .u64 (stdBin .shl .u64 (gF m b k) 8) (m.getD (b + (k : Int)).toNat 0)
    rw [gF_congr k (fun i hi => h i (by omega)), h k (by omega)]
theorem rmR_len {l : List Int} {e wd : Int} (h : 0 ≤ wd) : ((rmR l e wd).length : Int) = if e = 0 ∧ mx0 wd ≤ l.length then wd else 0 := by
  have hm : mx0 wd = wd := by unfold mx0; split <;> omega
  unfold rmR
  rw [hm]
  split
  · rename_i hc
    show ((List.take wd.toNat (List.drop 0 l)).length : Int) = wd
    simp only [List.drop_zero, List.length_take]
    omega
  · rfl
theorem rmV_eq {l : List Int} {e wd : Int} (h : 0 ≤ wd) : gF (rmR l e wd) 0 (rmR l e wd).length = rmV l e wd := by
  have hl := rmR_len (l := l) (e := e) h
  have hm : mx0 wd = wd := by unfold mx0; split <;> omega
  unfold rmV
  split
  · rename_i hc
    rw [if_pos hc] at hl
    have e1 : (rmR l e wd).length = wd.toNat := by omega
    rw [e1]
    refine gF_congr _ fun i hi => ?_
    unfold rmR
    rw [if_pos hc, hm]
    show (List.take wd.toNat (List.drop 0 l)).getD _ 0 = _
    simp only [List.drop_zero, List.getD_eq_getElem?_getD]
    rw [List.getElem?_take, if_pos (by omega)]
  · rename_i hc
    rw [if_neg hc] at hl
    have e1 : (rmR l e wd).length = 0 := by omega
    rw [e1]
    rfl
theorem rmraw_mth : RunOk Try.prog false 19 (mrun (rmMt) (fun p => smL p.l) (rmX) (rmOs) []) := by
  obtain ⟨G, hG⟩ : ∃ G : List (FuncId × Ctr), G = [] := ⟨_, rfl⟩
  refine mth_ok (ck := false) [] iok_nil [] trivial (by unfold FnOk; kernel_rfl) Try.func19 rfl tt_ok (G := G) (by rw [hG]; exact trivial) mixed (by kernel_rfl) (rmArgs) (rmOs0) [.slot 0 5 .u8] [.imm 0 0 .u8] rfl (fun _ => by simp [rmOs0]) rmMt_ok ?_
  intro p hp hs
  obtain ⟨l, e, wd⟩ := p
  obtain ⟨g, r, w, us, h1, h2⟩ := hs
  have HS := Lib.hid (rm_facts h2)
  have hp : (l.length : Int) ≤ 140737488355328 := hp
  have HP := Lib.hid hp
  clear hp h1 h2
  dsimp only [rmArgs, rmOs0, rmOs, rmX] at *
  generalize hA : std = A
  subst hG
  generalize h_c : ci = c
  generalize h_fL : rmL = fL
  generalize h_fE : rmE = fE
  generalize h_fR : rmR = fR
  cbv
  (repeat' (first | apply And.intro | apply BrB.mk | apply BrP.mk | intro _))
  (all_goals (subst hA; subst h_c; subst h_fL; subst h_fE; subst h_fR); all_goals (have f_hs := HS.out; have f_hp := HP.out); all_goals (try simp only [std, stdBin, stdCmp, stdUna, stdIn, ci, beq_iff_eq, bne_iff_ne, beq_eq_false_iff_ne, bne_eq_false_iff_eq, decide_eq_true_eq, decide_eq_false_iff_not, Bool.not_true, Bool.not_false, Bool.not_eq_true', Bool.not_eq_false', Bool.not_not, tn0, tn1, tn2, tn3, mx0_eq] at *); all_goals (try omega))
  all_goals (have z5 := mx0_nn wd)
  all_goals first
      | omega
      | (show [] = rmL l e wd; unfold rmL; rw [if_neg (by omega)])
      | (show [] = rmR l e wd; unfold rmR; rw [if_neg (by omega)])
      | (show Value.int .i64 _ = Value.int .i64 (rmE l e wd); refine congrArg (Value.int .i64) ?_; simp only [rmE]; split <;> omega)
      | (show _ = rmL l e wd; unfold rmL; rw [if_pos ⟨by omega, by omega⟩]; rfl)
      | (show _ = rmR l e wd; unfold rmR; rw [if_pos ⟨by omega, by omega⟩, show mx0 wd - 0 = mx0 wd from by omega]; rfl)
      | (have h9 : ((l.length : Nat) : Int) ≤ 140737488355328 := f_hp
         have z4 : min (mx0 wd - 0).toNat l.length ≤ l.length := Nat.min_le_right _ _
         refine ⟨?_, ?_⟩ <;> (simp only [List.drop_zero, List.length_take]; omega))
      | trace_state
theorem num_mth : RunOk Try.prog false 34 (mrun (rmMt) (fun p => pw8 p.wd ∧ smL p.l) (rmXN) (rmOsN) []) := by
  obtain ⟨G, hG⟩ : ∃ G : List (FuncId × Ctr), G = [] := ⟨_, rfl⟩
  refine mth_ok (ck := false) [(19, mrun (rmMt) (fun p => smL p.l) (rmX) (rmOs) [])] (iok_cons (RunOk.up rmraw_mth) iok_nil) [] trivial (by unfold FnOk; kernel_rfl) Try.func34 rfl tt_ok (G := G) (by rw [hG]; exact trivial) mixed (by kernel_rfl) (rmArgs) (rmOs0) [] [] rfl (fun _ => by simp [rmOs0]) rmMt_ok ?_
  intro p hp hs
  obtain ⟨l, e, wd⟩ := p
  obtain ⟨g, r, w, us, h1, h2⟩ := hs
  have HS := Lib.hid (rm_facts h2)
  have hp : (0 ≤ wd ∧ wd ≤ 8) ∧ (l.length : Int) ≤ 140737488355328 := hp
  have HP := Lib.hid hp
  clear hp h1 h2
  dsimp only [rmArgs, rmOs0, rmOsN, rmXN] at *
  delta rmOs rmX
  generalize hA : std = A
  subst hG
  generalize h_c : ci = c
  generalize h_fL : rmL = fL
  generalize h_fE : rmE = fE
  generalize h_fR : rmR = fR
  generalize h_fV : rmV = fV
  generalize h_fs : smL = fs
  obtain ⟨S, hS⟩ : ∃ S : Nat → Int, ∀ k, S k = gF (rmR l e wd) 0 k := ⟨_, fun _ => rfl⟩
  have HSS := Lib.hid hS
  clear hS
  cbv
  (repeat' (first | apply And.intro | apply BrB.mk | apply BrP.mk | intro _))
  all_goals try (refine loop_at Nat 12 (fun j => [(5, .v (.int .u64 (S j))), (7, .any), (12, .v (.int .i64 (c j)))]) (fun j o => o) (fun j => (j : Int) ≤ c (rmR l e wd).length) (fun j => (rmR l e wd).length - j) 0 ?h0 ?hle ?round)
  case hle =>
    cbv
    (repeat' (first | apply And.intro | apply BrB.mk | apply BrP.mk | intro _))
    (all_goals (subst hA; subst h_c; subst h_fL; subst h_fE; subst h_fR; subst h_fV; subst h_fs); all_goals (have f_hs := HS.out; have f_hp := HP.out); all_goals (try simp only [std, stdBin, stdCmp, stdUna, stdIn, ci, beq_iff_eq, bne_iff_ne, beq_eq_false_iff_ne, bne_eq_false_iff_eq, decide_eq_true_eq, decide_eq_false_iff_not, Bool.not_true, Bool.not_false, Bool.not_eq_true', Bool.not_eq_false', Bool.not_not, tn0, tn1, tn2, tn3] at *); all_goals (try omega))
    all_goals (have hS := HSS.out)
    all_goals first
      | rfl
      | (rw [hS]; rfl)
      | trace_state
  case round =>
    intro j hj
    cbv
    (repeat' (first | apply And.intro | apply BrB.mk | apply BrP.mk | intro _))
    all_goals try (refine ⟨j + 1, ?_, ?_, ?_⟩)
    all_goals try (show AS.le _ _; cbv; (repeat' (first | apply And.intro | apply BrB.mk | apply BrP.mk | intro _)))
    (all_goals (subst hA; subst h_c; subst h_fL; subst h_fE; subst h_fR; subst h_fV; subst h_fs); all_goals (have f_hs := HS.out; have f_hp := HP.out); all_goals (try simp only [std, stdBin, stdCmp, stdUna, stdIn, ci, beq_iff_eq, bne_iff_ne, beq_eq_false_iff_ne, bne_eq_false_iff_eq, decide_eq_true_eq, decide_eq_false_iff_not, Bool.not_true, Bool.not_false, Bool.not_eq_true', Bool.not_eq_false', Bool.not_not, tn0, tn1, tn2, tn3] at *); all_goals (try omega))
    all_goals (have hS := HSS.out; have hj' : (j : Int) ≤ ((rmR l e wd).length : Int) := hj)
    all_goals first
      | (show ((j + 1 : Nat) : Int) ≤ ((rmR l e wd).length : Int); have h9 : ((j : Nat) : Int) < ((rmR l e wd).length : Int) := (by assumption); omega)
      | (show Value.int .i64 (IntKind.i64.wrap ((j : Int) + 1)) = Value.int .i64 ((j.succ : Nat) : Int); have h9 : ((j : Nat) : Int) < ((rmR l e wd).length : Int) := (by assumption); have h8 := rmR_len (l := l) (e := e) f_hp.1.1; have h7 := f_hp.1.2; rw [w64 (by omega) (by split at h8 <;> omega)]; exact congrArg (Value.int .i64) (by omega))
      | (show Value.int .u64 (S j) = Value.int .u64 (rmV l e wd); have h9 : ¬ ((j : Nat) : Int) < ((rmR l e wd).length : Int) := (by assumption); have e1 : j = (rmR l e wd).length := (by omega); rw [hS, e1, rmV_eq f_hp.1.1])
      | (have e1 : (0 + (j : Int)).toNat = ((j : Nat) : Int).toNat := (by omega)
         rw [hS j.succ]
         show _ = Value.int .u64 (stdBin .or .u64 (stdBin .shl .u64 (gF (rmR l e wd) 0 j) 8) ((rmR l e wd).getD (0 + (j : Int)).toNat 0))
         rw [e1, ← hS j]
         rfl)
      | trace_state
  (all_goals (subst hA; subst h_c; subst h_fL; subst h_fE; subst h_fR; subst h_fV; subst h_fs); all_goals (have f_hs := HS.out; have f_hp := HP.out); all_goals (try simp only [std, stdBin, stdCmp, stdUna, stdIn, ci, beq_iff_eq, bne_iff_ne, beq_eq_false_iff_ne, bne_eq_false_iff_eq, decide_eq_true_eq, decide_eq_false_iff_not, Bool.not_true, Bool.not_false, Bool.not_eq_true', Bool.not_eq_false', Bool.not_not, tn0, tn1, tn2, tn3] at *); all_goals (try omega))
  all_goals (first | exact f_hp.2 | trace_state)
/-! ### A new reader -/
structure NrP where
  l : List Int
def llenI (l : List Int) : Int := l.length
def nrMt (args : List SV) (ob : Nat → SO) : Option (NrP × List Nat) := match args with
  | [.iimm .u8 l] => some (⟨l⟩, [])
  | _ => none
def nrArgs (p : NrP) : List SV := [.iimm .u8 p.l]
def nrOs0 (p : NrP) : List SO := []
def nrOs (p : NrP) : List SO := [.irow 5 .u8 p.l, .cells 56 [.sub 0 0 (llenI p.l), .v (.int .i64 0)]]
def nrX (p : NrP) : SV := .ptr 1 0
theorem nrMt_ok (args : List SV) (ob : Nat → SO) (p : NrP) (ms : List Nat) (h : nrMt args ob = some (p, ms)) : MtOk nrMt nrArgs nrOs0 args ob p ms := by
  unfold nrMt at h
  split at h
  · cases h
    exact ⟨fun n => rfl, rfl, (fun n k hk => by cases hk), (fun k hk => by cases hk), (fun k hk => by cases hk)⟩
  · cases h
theorem new_mth : RunOk Try.prog false 9 (mrun (nrMt) (fun p => smL p.l) (nrX) (nrOs) []) := by
  obtain ⟨G, hG⟩ : ∃ G : List (FuncId × Ctr), G = [(32, rowP [.sl (.int .u8)] 5 .u8 (lenP 1) sameL)] := ⟨_, rfl⟩
  refine mth_ok (ck := false) [] iok_nil [] trivial (by unfold FnOk; kernel_rfl) Try.func9 rfl tt_ok (G := G) (by rw [hG]; exact ⟨⟨cloneB_ok, by unfold FnOk; kernel_rfl⟩, trivial⟩) mixed (by kernel_rfl) (nrArgs) (nrOs0) [] [.piece 1 0] rfl (fun _ => by simp [nrOs0]) nrMt_ok ?_
  intro p hp hs
  obtain ⟨l⟩ := p
  obtain ⟨g, r, w, us, h1, h2⟩ := hs
  have HS := Lib.hid True.intro
  have hp : (l.length : Int) ≤ 140737488355328 := hp
  have HP := Lib.hid hp
  clear hp h1 h2
  dsimp only [nrArgs, nrOs0, nrOs, nrX] at *
  generalize hA : std = A
  subst hG
  generalize h_c : ci = c
  generalize h_fl : lenP 1 = fl
  generalize h_fc : sameL = fc
  generalize h_fn : llenI = fn
  cbv
  (repeat' (first | apply And.intro | apply BrB.mk | apply BrP.mk | intro _))
  (all_goals (subst hA; subst h_c; subst h_fl; subst h_fc; subst h_fn); all_goals (have f_hs := HS.out; have f_hp := HP.out); all_goals (try simp only [std, stdBin, stdCmp, stdUna, stdIn, ci, beq_iff_eq, bne_iff_ne, beq_eq_false_iff_ne, bne_eq_false_iff_eq, decide_eq_true_eq, decide_eq_false_iff_not, Bool.not_true, Bool.not_false, Bool.not_eq_true', Bool.not_eq_false', Bool.not_not, tn0, tn1, tn2, tn3, lenP, sameL] at *); all_goals (try omega))
  all_goals first
    | rfl
    | (have h9 : ((l.length : Nat) : Int) ≤ 140737488355328 := f_hp; show ((l.length : Nat) : Int) * ((1 : Nat) : Int) ≤ 140737488355328; omega)
    | trace_state
end Go.Proofs.Ythklcldmoakbfaa
