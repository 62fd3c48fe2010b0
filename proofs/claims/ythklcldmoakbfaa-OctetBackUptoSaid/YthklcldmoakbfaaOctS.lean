/- Layer 3: what is written is read as it was. -/
import Derived.Test.YthklcldmoakbfaaOctN
import Derived.Test.YthklcldmoakbfaaOctG
namespace Go.Proofs.Ythklcldmoakbfaa
open Go.RowKit
set_option maxRecDepth 20000
set_option linter.unusedSimpArgs false
set_option linter.unusedVariables false
set_option maxHeartbeats 16000000
set_option cbv.maxSteps 10000000
/-! ### A new reader of own bytes -/
def nr2Mt (args : List SV) (ob : Nat → SO) : Option (NrP × List Nat) := match args with
  | [.hdl j] => match ob j with
    | .irow E .u8 l => match Nat.beq E 5 with
      | true => some (⟨l⟩, [j])
      | false => none
    | _ => none
  | _ => none
def nr2Args (p : NrP) : List SV := [.hdl 0]
def nr2Os0 (p : NrP) : List SO := [.irow 5 .u8 p.l]
def nr2Os (p : NrP) : List SO := [.irow 5 .u8 p.l, .irow 5 .u8 p.l, .cells 56 [.sub 1 0 (llenI p.l), .v (.int .i64 0)]]
def nr2X (p : NrP) : SV := .ptr 2 0
theorem nr2Mt_ok (args : List SV) (ob : Nat → SO) (p : NrP) (ms : List Nat) (h : nr2Mt args ob = some (p, ms)) : MtOk nr2Mt nr2Args nr2Os0 args ob p ms := by
  unfold nr2Mt at h
  split at h
  · rename_i j
    split at h
    · rename_i E l hj
      cases hE : Nat.beq E 5 with
      | false => rw [hE] at h; cases h
      | true =>
        rw [hE] at h
        have hE := Nat.eq_of_beq_eq_true hE
        subst hE
        cases h
        refine ⟨fun n => rfl, rfl, fun n k hk => ?_, fun k hk => ?_, fun k hk => ?_⟩
        · match k, hk with
          | 0, _ => exact hj
        · match k, hk with
          | 0, _ => simp [nr2Os0]
        · match k, hk with
          | 0, _ => simp [lookI]
    · cases h
  · cases h
theorem new2_mth : RunOk Try.prog false 9 (mrun (nr2Mt) (fun p => smL p.l) (nr2X) (nr2Os) []) := by
  obtain ⟨G, hG⟩ : ∃ G : List (FuncId × Ctr), G = [(32, rowP [.sl (.int .u8)] 5 .u8 (lenP 1) sameL)] := ⟨_, rfl⟩
  refine mth_ok (ck := false) [] iok_nil [] trivial (by unfold FnOk; kernel_rfl) Try.func9 rfl tt_ok (G := G) (by rw [hG]; exact ⟨⟨cloneB_ok, by unfold FnOk; kernel_rfl⟩, trivial⟩) mixed (by kernel_rfl) (nr2Args) (nr2Os0) [] [.piece 2 0] rfl (fun _ => by simp [nr2Os0]) nr2Mt_ok ?_
  intro p hp hs
  obtain ⟨l⟩ := p
  obtain ⟨g, r, w, us, h1, h2⟩ := hs
  have HS := Lib.hid True.intro
  have hp : (l.length : Int) ≤ 140737488355328 := hp
  have HP := Lib.hid hp
  clear hp h1 h2
  dsimp only [nr2Args, nr2Os0, nr2Os, nr2X] at *
  generalize hA : std = A
  subst hG
  generalize h_c : ci = c
  generalize h_fl : lenP 1 = fl
  generalize h_fc : sameL = fc
  generalize h_fn : llenI = fn
  cbv
  (repeat' (first | apply And.intro | apply BrB.mk | apply BrP.mk | intro _))
  (all_goals (subst hA; subst h_c; subst h_fl; subst h_fc; subst h_fn); all_goals (have f_hs := HS.out; have f_hp := HP.out); all_goals (try simp only [std, stdBin, stdCmp, stdUna, stdIn, ci, beq_iff_eq, bne_iff_ne, beq_eq_false_iff_ne, bne_eq_false_iff_eq, decide_eq_true_eq, decide_eq_false_iff_not, Bool.not_true, Bool.not_false, Bool.not_eq_true', Bool.not_eq_false', Bool.not_not, tn0, tn1, tn2, tn3, lenP, sameL] at *); all_goals (try omega))
  all_goals first
    | rfl
    | (have h9 : ((l.length : Nat) : Int) ≤ 140737488355328 := f_hp; show ((l.length : Nat) : Int) * ((1 : Nat) : Int) ≤ 140737488355328; omega)
    | trace_state
/-! ### Bytes that were put, as a number -/
theorem or_byte {x b : Nat} (hx : x < 2 ^ 56) (hb : b < 256) : stdBin .or .u64 (stdBin .shl .u64 (x : Int) 8) (b : Int) = ((x * 256 + b : Nat) : Int) := by
  have e1 : stdBin .shl .u64 (x : Int) 8 = ((x * 256 : Nat) : Int) := by
    show IntKind.u64.wrap ((x : Int) * 2 ^ (min (8 : Int).toNat 64)) = _
    rw [show min (8 : Int).toNat 64 = 8 from rfl, wrap_u64]
    have : (2 : Nat) ^ 56 = 72057594037927936 := by decide
    omega
  rw [e1]
  show IntKind.u64.wrap (((BitVec.ofInt 64 ((x * 256 : Nat) : Int) ||| BitVec.ofInt 64 (b : Int)).toNat : Nat) : Int) = _
  have h56 : (2 : Nat) ^ 56 = 72057594037927936 := by decide
  have h64 : (2 : Nat) ^ 64 = 18446744073709551616 := by decide
  rw [BitVec.toNat_or, BitVec.ofInt_natCast, BitVec.ofInt_natCast, BitVec.toNat_ofNat, BitVec.toNat_ofNat, Nat.mod_eq_of_lt (by omega), Nat.mod_eq_of_lt (by omega)]
  have h2 : x * 256 = x <<< 8 := by rw [Nat.shiftLeft_eq]
  have h3 : b < 2 ^ 8 := by omega
  rw [h2, ← Nat.shiftLeft_add_eq_or_of_lt h3, ← h2, wrap_u64]
  omega
theorem putK_get (n w : Int) : ∀ (k i : Nat), i < k → (putK n w k).getD i 0 = byteAt n (8 * (w - 1 - (i : Int)))
  | 0, i, h => by omega
  | k + 1, i, h => by
    rw [putK]
    have hl := putK_len n w k
    simp only [List.getD_eq_getElem?_getD]
    by_cases e : i < k
    · rw [List.getElem?_append, if_pos (by omega)]
      have := putK_get n w k i e
      rwa [List.getD_eq_getElem?_getD] at this
    · have : i = k := by omega
      subst this
      rw [List.getElem?_append, if_neg (by omega), hl, Nat.sub_self]
      rfl
theorem byte_nat (n w i : Nat) (hw : w ≤ 8) (hi : i < w) : byteAt (n : Int) (8 * ((w : Int) - 1 - (i : Int))) = ((n / 2 ^ (8 * (w - 1 - i)) % 256 : Nat) : Int) := by
  rw [byte_at _ _ (8 * (w - 1 - i)) (by omega)]
  unfold byteD
  rw [fdiv_pow, wrap_u8]
  have : ((2 : Int) ^ (8 * (w - 1 - i))) = ((2 ^ (8 * (w - 1 - i)) : Nat) : Int) := by
    rw [Int.natCast_pow]; rfl
  rw [this]
  rfl
theorem gF_put (n w : Nat) (hw : w ≤ 8) : ∀ k : Nat, k ≤ w → gF (putK (n : Int) (w : Int) w) 0 k = ((n / 2 ^ (8 * (w - k)) % 2 ^ (8 * k) : Nat) : Int)
  | 0, _ => by simp [gF, Nat.mod_one]
  | k + 1, hk => by
    have ih := gF_put n w hw k (by omega)
    show stdBin .or .u64 (stdBin .shl .u64 (gF (putK (n : Int) (w : Int) w) 0 k) 8) ((putK (n : Int) (w : Int) w).getD (0 + (k : Int)).toNat 0) = _
    have e1 : (0 + (k : Int)).toNat = k := by omega
    rw [ih, e1, putK_get _ _ w k (by omega), byte_nat n w k hw (by omega)]
    have h1 : (2 : Nat) ^ (8 * k) ≤ 2 ^ 56 := Nat.pow_le_pow_right (by decide) (by omega)
    have h0 : 0 < (2 : Nat) ^ (8 * k) := Nat.pow_pos (by decide)
    rw [or_byte (Nat.lt_of_lt_of_le (Nat.mod_lt _ h0) h1) (Nat.mod_lt _ (by decide))]
    obtain ⟨m, hm⟩ : ∃ m, m = n / 2 ^ (8 * (w - (k + 1))) := ⟨_, rfl⟩
    have e2 : n / 2 ^ (8 * (w - 1 - k)) = m := by rw [hm]; congr 2; omega
    have e3 : n / 2 ^ (8 * (w - k)) = m / 256 := by
      rw [hm, Nat.div_div_eq_div_mul]
      have : 8 * (w - k) = 8 * (w - (k + 1)) + 8 := by omega
      rw [this, Nat.pow_add]
    have e4 : (2 : Nat) ^ (8 * (k + 1)) = 256 * 2 ^ (8 * k) := by
      have : 8 * (k + 1) = 8 + 8 * k := by omega
      rw [this, Nat.pow_add]
    rw [← hm, e2, e3, e4, Nat.mod_mul]
    congr 1
    omega
/-- Bytes in the midst of others, as a number. -/
theorem gF_mid {X E Y : List Int} : gF (X ++ (E ++ Y)) (X.length : Int) E.length = gF E 0 E.length := by
  refine gF_congr _ fun i hi => ?_
  have e1 : ((X.length : Int) + (i : Int)).toNat = X.length + i := by omega
  have e2 : (0 + (i : Int)).toNat = i := by omega
  rw [e1, e2]
  simp only [List.getD_eq_getElem?_getD]
  rw [List.getElem?_append, if_neg (by omega), show X.length + i - X.length = i from by omega, List.getElem?_append, if_pos hi]
theorem take_mid {X E Y : List Int} : std.lsub (X ++ (E ++ Y)) (X.length : Int) (E.length : Int) = E := by
  show List.take (E.length : Int).toNat (List.drop (X.length : Int).toNat (X ++ (E ++ Y))) = E
  have e1 : ((E.length : Nat) : Int).toNat = E.length := by omega
  have e2 : ((X.length : Nat) : Int).toNat = X.length := by omega
  rw [e1, e2, List.drop_left, List.take_left]
/-- What is behind the first calls. -/
def tlK (l : Dat) (k : Nat) : Nat → List Int
  | 0 => []
  | j + 1 => tlK l k j ++ encAt l (k + j)
theorem wrK_split (l : Dat) (k : Nat) : ∀ j, wrK l (k + j) = wrK l k ++ tlK l k j
  | 0 => by rw [tlK, List.append_nil]; rfl
  | j + 1 => by
    show wrK l (k + j) ++ encAt l (k + j) = _
    rw [wrK_split l k j, tlK, List.append_assoc]
theorem wrK_mid (l : Dat) {k n : Nat} (h : k < n) : ∃ Y, wrK l n = wrK l k ++ (encAt l k ++ Y) := by
  refine ⟨tlK l (k + 1) (n - (k + 1)), ?_⟩
  have e : n = (k + 1) + (n - (k + 1)) := by omega
  have h1 := wrK_split l (k + 1) (n - (k + 1))
  rw [← e] at h1
  rw [h1]
  show (wrK l k ++ encAt l k) ++ _ = _
  rw [List.append_assoc]
/-- A call's answer out of a reader of all that was written. -/
theorem back_num {l : Dat} {k n : Nat} {q N : Nat} (hk : k < n) (hq : q ≤ 8) (he : encAt l k = putK (N : Int) (q : Int) q) :
    rdV (wrK l n) ((wrK l k).length : Int) (((wrK l n).length : Int) - ((wrK l k).length : Int)) 0 (q : Int) = ((N % 2 ^ (8 * q) : Nat) : Int) ∧
    rdA ((wrK l k).length : Int) (((wrK l n).length : Int) - ((wrK l k).length : Int)) 0 (q : Int) = ((wrK l (k + 1)).length : Int) ∧
    rdN (((wrK l n).length : Int) - ((wrK l k).length : Int)) 0 (q : Int) = ((wrK l n).length : Int) - ((wrK l (k + 1)).length : Int) ∧
    rdE (((wrK l n).length : Int) - ((wrK l k).length : Int)) 0 (q : Int) = 0 := by
  obtain ⟨Y, hY⟩ := wrK_mid l hk
  have hel : (encAt l k).length = q := by rw [he, putK_len]
  have h1 : (wrK l (k + 1)).length = (wrK l k).length + q := by
    show (wrK l k ++ encAt l k).length = _
    rw [List.length_append, hel]
  have h2 : (wrK l n).length = (wrK l k).length + (q + Y.length) := by rw [hY, List.length_append, List.length_append, hel]
  have hc : (q : Int) ≤ ((wrK l n).length : Int) - ((wrK l k).length : Int) := by omega
  unfold rdV rdA rdN rdE
  simp only [if_pos hc, hc, and_self, if_true, true_and]
  refine ⟨?_, by omega, by omega, trivial⟩
  have e1 : ((q : Nat) : Int).toNat = (encAt l k).length := by rw [hel]; omega
  rw [e1, hY, gF_mid, hel, he, gF_put N q hq q (Nat.le_refl _)]
  simp
theorem back_raw {l : Dat} {k n : Nat} (hk : k < n) :
    rwL (wrK l n) ((wrK l k).length : Int) (((wrK l n).length : Int) - ((wrK l k).length : Int)) 0 ((encAt l k).length : Int) = encAt l k ∧
    rwA ((wrK l k).length : Int) (((wrK l n).length : Int) - ((wrK l k).length : Int)) 0 ((encAt l k).length : Int) = ((wrK l (k + 1)).length : Int) ∧
    rwN (((wrK l n).length : Int) - ((wrK l k).length : Int)) 0 ((encAt l k).length : Int) = ((wrK l n).length : Int) - ((wrK l (k + 1)).length : Int) ∧
    rwE (((wrK l n).length : Int) - ((wrK l k).length : Int)) 0 ((encAt l k).length : Int) = 0 := by
  obtain ⟨Y, hY⟩ := wrK_mid l hk
  have h1 : (wrK l (k + 1)).length = (wrK l k).length + (encAt l k).length := by
    show (wrK l k ++ encAt l k).length = _
    rw [List.length_append]
  have h2 : (wrK l n).length = (wrK l k).length + ((encAt l k).length + Y.length) := by rw [hY, List.length_append, List.length_append]
  have hc : ((encAt l k).length : Int) ≤ ((wrK l n).length : Int) - ((wrK l k).length : Int) := by omega
  have h0 : (0 : Int) ≤ ((encAt l k).length : Int) := by omega
  unfold rwL rwA rwN rwE rdA rdN rdE
  simp only [if_pos hc, if_pos h0, hc, h0, and_self, if_true, true_and]
  refine ⟨?_, by omega, by omega, trivial⟩
  rw [hY, take_mid]
theorem call_num {l : Dat} (h : Wt (.sl callTy) l) {k : Nat} (hk : k < l.ls.length) : 0 ≤ ((l.at k).fld 1).z ∧ ((l.at k).fld 1).z < 18446744073709551616 := by
  simp only [Wt] at h
  obtain ⟨ds, rfl, h2, h3⟩ := h
  simp only [Dat.ls] at hk
  have h1 : Wt callTy ((Dat.list ds).at k) := by
    unfold Dat.at
    simp only [Dat.ls, List.getD_eq_getElem?_getD, List.getElem?_eq_getElem hk]
    exact h3 _ (List.getElem_mem _)
  generalize (Dat.list ds).at k = y at h1
  simp only [callTy, Wt, WtL] at h1
  obtain ⟨ds, rfl, u, us, rfl, _, u2, us2, rfl, ⟨z, rfl, hz⟩, _⟩ := h1
  show 0 ≤ z ∧ z < _
  have hz := (wf_iff _ _).1 hz
  simp only [IntKind.min, IntKind.max, IntKind.bits, IntKind.signed] at hz
  simp at hz
  omega
theorem num_q {q z : Int} (h : 0 ≤ z ∧ z < 18446744073709551616) : ∃ N : Nat, numQ q z = (N : Int) ∧ (q = 8 → (N : Int) = z) ∧ (q = 4 → (N : Int) = z % 4294967296) ∧ (q ≠ 4 → q ≠ 8 → (N : Int) = z) := by
  have e1 : IntKind.u64.wrap (IntKind.i64.wrap z) = z := by
    simp only [IntKind.wrap, IntKind.bits, IntKind.signed]
    (try simp)
    (try split) <;> omega
  unfold numQ
  rw [wrap_u32, e1]
  split
  · exact ⟨(z % 4294967296).toNat, by omega, by omega, by omega, by omega⟩
  · split
    · exact ⟨z.toNat, by omega, by omega, by omega, by omega⟩
    · exact ⟨z.toNat, by omega, by omega, by omega, by omega⟩
theorem and_mask {N m : Nat} (hN : N < 18446744073709551616) (hm : m ≤ 63) : IntKind.u64.wrap (((BitVec.ofInt IntKind.u64.bits (N : Int) &&& BitVec.ofInt IntKind.u64.bits ((2 ^ m - 1 : Nat) : Int)).toNat : Nat) : Int) = ((N % 2 ^ m : Nat) : Int) := by
  have hb : IntKind.u64.bits = 64 := rfl
  have h64 : (2 : Nat) ^ 64 = 18446744073709551616 := by decide
  have hp : (2 : Nat) ^ m < 2 ^ 64 := Nat.pow_lt_pow_right (by decide) (by omega)
  have h0 : 0 < (2 : Nat) ^ m := Nat.pow_pos (by decide)
  have h1 : N % 2 ^ m < 2 ^ m := Nat.mod_lt _ h0
  rw [hb, BitVec.toNat_and, BitVec.ofInt_natCast, BitVec.ofInt_natCast, BitVec.toNat_ofNat, BitVec.toNat_ofNat, Nat.mod_eq_of_lt (by omega), Nat.mod_eq_of_lt (by omega), Nat.and_two_pow_sub_one_eq_mod, wrap_u64]
  omega
theorem wrF_all {l : Dat} (h : l.ls.length ≤ 60) : wrF [.d l] = wrK l l.ls.length := by
  show wrK l (sixty l.ls.length) = _
  unfold sixty
  congr 1
  omega
theorem back_ok : CtrOk Try.prog 5 (yesP [.sl callTy] wrP) := by
  obtain ⟨G, hG⟩ : ∃ G : List (FuncId × Ctr), G = [(7, twoP [.sl callTy] 5 .u8 wrP wrF), (8, yesP [] (fun _ => True))] := ⟨_, rfl⟩
  refine fn_inlB (ck := false) [(9, mrun (nr2Mt) (fun p => smL p.l) (nr2X) (nr2Os) []), (33, mrun (rdMt) (fun p => pw8 p.wd) (rdX) (rdOs) []), (18, mrun (rdMt) (fun p => smI p.n) (rwX) (rwOs) [])] (iok_cons (RunOk.up new2_mth) (iok_cons (RunOk.up get_mth) (iok_cons (RunOk.up raw_mth) iok_nil))) [(10, Try.f10), (12, Try.f12), (14, Try.f14), (16, Try.f16), (20, Try.f20), (21, Try.f21)] ⟨⟨Try.func10, by unfold FnOk; kernel_rfl, by kernel_rfl⟩, ⟨Try.func12, by unfold FnOk; kernel_rfl, by kernel_rfl⟩, ⟨Try.func14, by unfold FnOk; kernel_rfl, by kernel_rfl⟩, ⟨Try.func16, by unfold FnOk; kernel_rfl, by kernel_rfl⟩, ⟨Try.func20, by unfold FnOk; kernel_rfl, by kernel_rfl⟩, ⟨Try.func21, by unfold FnOk; kernel_rfl, by kernel_rfl⟩, trivial⟩ Try.func5 rfl tt_ok (G := G) (by rw [hG]; exact ⟨⟨written_ok, by unfold FnOk; kernel_rfl⟩, ⟨awake3_ok, by unfold FnOk; kernel_rfl⟩, trivial⟩) mixed (by kernel_rfl) ?_
  intro xa xs h hx hp
  obtain ⟨a0, as0, x0, xs0, rfl, rfl, h0, H1⟩ := svArgs_cons h
  obtain ⟨rfl, rfl⟩ := svArgs_nil H1
  obtain ⟨l, rfl, rfl⟩ := argSV_rows h0
  delta nr2Os nr2X rdOs rdX rwOs rwX
  have sl : ci l.ls.length ≤ 9223372036854775807 ∧ Wt (.sl callTy) l := ⟨wtl_len (hx (.imm callTy l) (List.mem_of_getElem? (i := 0) rfl)), hx (.imm callTy l) (List.mem_of_getElem? (i := 0) rfl)⟩
  have SL := Lib.hid sl
  clear sl
  have HP := Lib.hid (hp _ rfl)
  clear hx hp h h0 H1
  generalize hA : std = A
  subst hG
  generalize h_c : ci = c
  generalize h_fp : wrP = fp
  generalize h_fW : wrF = fW
  generalize h_fV : rdV = fV
  generalize h_fA : rdA = fA
  generalize h_fN : rdN = fN
  generalize h_fE : rdE = fE
  generalize h_fL : rwL = fL
  generalize h_fA2 : rwA = fA2
  generalize h_fN2 : rwN = fN2
  generalize h_fE2 : rwE = fE2
  generalize h_fs : smL = fs
  generalize h_fi : smI = fi
  generalize h_fw : pw8 = fw
  generalize h_fn : llenI = fn
  obtain ⟨P, hP⟩ : ∃ P : Nat → Int, ∀ k, P k = ((wrK l k).length : Int) := ⟨_, fun _ => rfl⟩
  obtain ⟨M, hM⟩ : ∃ M : Nat → Int, ∀ k, M k = ((wrK l l.ls.length).length : Int) - ((wrK l k).length : Int) := ⟨_, fun _ => rfl⟩
  have HQ := Lib.hid hP
  have HM := Lib.hid hM
  clear hP hM
  cbv
  (repeat' (first | apply And.intro | apply BrB.mk | apply BrP.mk | intro _))
  (all_goals try (exfalso; (subst hA; subst h_c; subst h_fp; subst h_fW; subst h_fV; subst h_fA; subst h_fN; subst h_fE; subst h_fL; subst h_fA2; subst h_fN2; subst h_fE2; subst h_fs; subst h_fi; subst h_fw; subst h_fn); (try simp only [std, stdBin, stdCmp, stdUna, stdIn, ci, beq_iff_eq, bne_iff_ne, beq_eq_false_iff_ne, bne_eq_false_iff_eq, decide_eq_true_eq, decide_eq_false_iff_not, Bool.not_true, Bool.not_false, Bool.not_eq_true', Bool.not_eq_false', Bool.not_not, tn0, tn1, tn2, tn3] at *); first | omega | contradiction))
  all_goals try (refine loop_at Nat 22 (fun k => [(2, .any), (7, .any), (8, .any), (22, .v (.int .i64 (c k)))]) (fun k o => o.set 3 (.cells 56 [.sub 2 (P k) (M k), .v (.int .i64 0)])) (fun k => k ≤ l.ls.length) (fun k => l.ls.length - k) 0 (Nat.zero_le _) ?hle ?round)
  case hle =>
    cbv
    (repeat' (first | apply And.intro | apply BrB.mk | apply BrP.mk | intro _))
    (all_goals (subst hA; subst h_c; subst h_fp; subst h_fW; subst h_fV; subst h_fA; subst h_fN; subst h_fE; subst h_fL; subst h_fA2; subst h_fN2; subst h_fE2; subst h_fs; subst h_fi; subst h_fw; subst h_fn); all_goals (have f_sl := SL.out; have f_hp := HP.out); all_goals (try simp only [std, stdBin, stdCmp, stdUna, stdIn, ci, beq_iff_eq, bne_iff_ne, beq_eq_false_iff_ne, bne_eq_false_iff_eq, decide_eq_true_eq, decide_eq_false_iff_not, Bool.not_true, Bool.not_false, Bool.not_eq_true', Bool.not_eq_false', Bool.not_not, tn0, tn1, tn2, tn3, llenI] at *); all_goals (try omega))
    all_goals (have p0 : P 0 = ((wrK l 0).length : Int) := HQ.out 0; have m0 : M 0 = ((wrK l l.ls.length).length : Int) - ((wrK l 0).length : Int) := HM.out 0; have hn9 : ¬ ((l.ls.length : Nat) : Int) > 60 := (by assumption); have hB := wrF_all (l := l) (by omega))
    all_goals first
      | rfl
      | (rw [p0]; rfl)
      | (rw [m0, hB]; show _ = _ - (0 : Int); rw [Int.sub_zero])
      | trace_state
  case round =>
    intro k hk
    cbv
    (repeat' (first | apply And.intro | apply BrB.mk | apply BrP.mk | intro _))
    (all_goals try (exfalso; (subst hA; subst h_c; subst h_fp; subst h_fW; subst h_fV; subst h_fA; subst h_fN; subst h_fE; subst h_fL; subst h_fA2; subst h_fN2; subst h_fE2; subst h_fs; subst h_fi; subst h_fw; subst h_fn); (try simp only [std, stdBin, stdCmp, stdUna, stdIn, ci, beq_iff_eq, bne_iff_ne, beq_eq_false_iff_ne, bne_eq_false_iff_eq, decide_eq_true_eq, decide_eq_false_iff_not, Bool.not_true, Bool.not_false, Bool.not_eq_true', Bool.not_eq_false', Bool.not_not, tn0, tn1, tn2, tn3] at *); first | omega | contradiction))
    all_goals try (refine ⟨k + 1, ?_, ?_, ?_⟩)
    all_goals try (show AS.le _ _; cbv; (repeat' (first | apply And.intro | apply BrB.mk | apply BrP.mk | intro _)))
    (all_goals (subst hA; subst h_c; subst h_fp; subst h_fW; subst h_fV; subst h_fA; subst h_fN; subst h_fE; subst h_fL; subst h_fA2; subst h_fN2; subst h_fE2; subst h_fs; subst h_fi; subst h_fw; subst h_fn); all_goals (have f_sl := SL.out; have f_hp := HP.out); all_goals (try simp only [std, stdBin, stdCmp, stdUna, stdIn, ci, beq_iff_eq, bne_iff_ne, beq_eq_false_iff_ne, bne_eq_false_iff_eq, decide_eq_true_eq, decide_eq_false_iff_not, Bool.not_true, Bool.not_false, Bool.not_eq_true', Bool.not_eq_false', Bool.not_not, tn0, tn1, tn2, tn3, lenP, sameL] at *); all_goals (try omega))
    all_goals (have p1 : P k = ((wrK l k).length : Int) := HQ.out k; have p2 : P (k + 1) = ((wrK l (k + 1)).length : Int) := HQ.out (k + 1); have m1 : M k = ((wrK l l.ls.length).length : Int) - ((wrK l k).length : Int) := HM.out k; have m2 : M (k + 1) = ((wrK l l.ls.length).length : Int) - ((wrK l (k + 1)).length : Int) := HM.out (k + 1); have hn9 : ¬ ((l.ls.length : Nat) : Int) > 60 := (by assumption); have hB := wrF_all (l := l) (by omega); have lw := wr_len f_hp l.ls.length (Nat.le_refl _))
    all_goals try first
      | exact ⟨by decide, by decide⟩
      | (show Value.int .i64 (IntKind.i64.wrap ((k : Int) + 1)) = Value.int .i64 ((k.succ : Nat) : Int); rw [w64 (by omega) (by omega)]; exact congrArg (Value.int .i64) (by omega))
      | (show M k ≤ 140737488355328; rw [m1]; omega)
      | (exfalso; have hk9 : ¬ ((k : Nat) : Int) < ((l.ls.length : Nat) : Int) := (by assumption); have ek : k = l.ls.length := (by omega); have e2 : M k = 0 := (by rw [m1, ek, Int.sub_self]); omega)
    all_goals (have hk8 : k < l.ls.length := (by have hk9 : ((k : Nat) : Int) < ((l.ls.length : Nat) : Int) := (by assumption); omega))
    all_goals (have cn := call_num f_sl.2 hk8)
    all_goals first
      | (have q : ((l.at (k : Int).toNat).fld 0).z = 0 := (by assumption)
         rw [Int.toNat_natCast] at q
         obtain ⟨N, n1, n8, n4, nx⟩ := num_q (q := 1) cn
         have ez : (N : Int) = ((l.at k).fld 1).z := nx (by decide) (by decide)
         have en := enc1 (d := ((l.at k).fld 0).z) (n := ((l.at k).fld 1).z) (r := ((l.at k).fld 2).ints) q
         have he : encAt l k = putK (N : Int) ((1 : Nat) : Int) 1 := (by rw [← n1]; exact en.1.trans en.2.symm)
         have r := back_num hk8 (by decide) he
         rw [← m1, ← m2, ← p1, ← p2] at r
         have r1 : rdV (wrK l l.ls.length) (P k) (M k) 0 1 = ((N % 2 ^ (8 * 1) : Nat) : Int) := r.1
         first
         | exact r.2.1
         | exact r.2.2.1
         | exact congrArg (Value.int .i64) r.2.2.2
         | (exfalso; have w9 : IntKind.i64.wrap (rdV (wrF [AV.d l]) (P k) (M k) 0 1) ≠ IntKind.i64.wrap (IntKind.u64.wrap (((BitVec.ofInt IntKind.u64.bits ((l.at (k : Int).toNat).fld 1).z &&& BitVec.ofInt IntKind.u64.bits 255).toNat : Nat) : Int)) := (by assumption); apply w9; rw [hB, r1, Int.toNat_natCast, ← ez]; exact congrArg _ (and_mask (m := 8) (by omega) (by decide)).symm)
         | trace_state)
      | (have q : ((l.at (k : Int).toNat).fld 0).z = 1 := (by assumption)
         rw [Int.toNat_natCast] at q
         obtain ⟨N, n1, n8, n4, nx⟩ := num_q (q := 2) cn
         have ez : (N : Int) = ((l.at k).fld 1).z := nx (by decide) (by decide)
         have en := enc2 (d := ((l.at k).fld 0).z) (n := ((l.at k).fld 1).z) (r := ((l.at k).fld 2).ints) q
         have he : encAt l k = putK (N : Int) ((2 : Nat) : Int) 2 := (by rw [← n1]; exact en.1.trans en.2.symm)
         have r := back_num hk8 (by decide) he
         rw [← m1, ← m2, ← p1, ← p2] at r
         have r1 : rdV (wrK l l.ls.length) (P k) (M k) 0 2 = ((N % 2 ^ (8 * 2) : Nat) : Int) := r.1
         first
         | exact r.2.1
         | exact r.2.2.1
         | exact congrArg (Value.int .i64) r.2.2.2
         | (exfalso; have w9 : IntKind.i64.wrap (rdV (wrF [AV.d l]) (P k) (M k) 0 2) ≠ IntKind.i64.wrap (IntKind.u64.wrap (((BitVec.ofInt IntKind.u64.bits ((l.at (k : Int).toNat).fld 1).z &&& BitVec.ofInt IntKind.u64.bits 65535).toNat : Nat) : Int)) := (by assumption); apply w9; rw [hB, r1, Int.toNat_natCast, ← ez]; exact congrArg _ (and_mask (m := 16) (by omega) (by decide)).symm)
         | trace_state)
      | (have q : ((l.at (k : Int).toNat).fld 0).z = 2 := (by assumption)
         rw [Int.toNat_natCast] at q
         obtain ⟨N, n1, n8, n4, nx⟩ := num_q (q := 4) cn
         have ez : (N : Int) = ((l.at k).fld 1).z % 4294967296 := n4 rfl
         have en := enc4 (d := ((l.at k).fld 0).z) (n := ((l.at k).fld 1).z) (r := ((l.at k).fld 2).ints) q
         have he : encAt l k = putK (N : Int) ((4 : Nat) : Int) 4 := (by rw [← n1]; exact en.1.trans en.2.symm)
         have r := back_num hk8 (by decide) he
         rw [← m1, ← m2, ← p1, ← p2] at r
         have r1 : rdV (wrK l l.ls.length) (P k) (M k) 0 4 = ((N % 2 ^ (8 * 4) : Nat) : Int) := r.1
         first
         | exact r.2.1
         | exact r.2.2.1
         | exact congrArg (Value.int .i64) r.2.2.2
         | (exfalso; have w9 : IntKind.u32.wrap (rdV (wrF [AV.d l]) (P k) (M k) 0 4) ≠ IntKind.u32.wrap ((l.at (k : Int).toNat).fld 1).z := (by assumption); apply w9; rw [hB, r1, Int.toNat_natCast, wrap_u32, wrap_u32]; have h32 : (2 : Nat) ^ (8 * 4) = 4294967296 := (by decide); omega)
         | trace_state)
      | (have q : ((l.at (k : Int).toNat).fld 0).z = 3 := (by assumption)
         rw [Int.toNat_natCast] at q
         obtain ⟨N, n1, n8, n4, nx⟩ := num_q (q := 8) cn
         have ez : (N : Int) = ((l.at k).fld 1).z := n8 rfl
         have en := enc8 (d := ((l.at k).fld 0).z) (n := ((l.at k).fld 1).z) (r := ((l.at k).fld 2).ints) q
         have he : encAt l k = putK (N : Int) ((8 : Nat) : Int) 8 := (by rw [← n1]; exact en.1.trans en.2.symm)
         have r := back_num hk8 (by decide) he
         rw [← m1, ← m2, ← p1, ← p2] at r
         have r1 : rdV (wrK l l.ls.length) (P k) (M k) 0 8 = ((N % 2 ^ (8 * 8) : Nat) : Int) := r.1
         first
         | exact r.2.1
         | exact r.2.2.1
         | exact congrArg (Value.int .i64) r.2.2.2
         | (exfalso; have w9 : rdV (wrF [AV.d l]) (P k) (M k) 0 8 ≠ ((l.at (k : Int).toNat).fld 1).z := (by assumption); apply w9; rw [hB, r1, Int.toNat_natCast]; have h64 : (2 : Nat) ^ (8 * 8) = 18446744073709551616 := (by decide); omega)
         | trace_state)
      | (have q0 : ((l.at (k : Int).toNat).fld 0).z ≠ 0 := (by assumption)
         have q1 : ((l.at (k : Int).toNat).fld 0).z ≠ 1 := (by assumption)
         have q2 : ((l.at (k : Int).toNat).fld 0).z ≠ 2 := (by assumption)
         have q3 : ((l.at (k : Int).toNat).fld 0).z ≠ 3 := (by assumption)
         rw [Int.toNat_natCast] at q0 q1 q2 q3
         have he : encAt l k = ((l.at k).fld 2).ints := (by unfold encAt; exact encR q0 q1 q2 q3)
         have r := back_raw (l := l) hk8
         rw [← m1, ← m2, ← p1, ← p2, he] at r
         first
         | exact r.2.1
         | exact r.2.2.1
         | exact congrArg (Value.int .i64) r.2.2.2
         | (exfalso; have w9 : (strOfNums (rwL (wrF [AV.d l]) (P k) (M k) 0 (((l.at (k : Int).toNat).fld 2).ints.length : Int))).toList ≠ (strOfNums ((l.at (k : Int).toNat).fld 2).ints).toList := (by assumption); apply w9; rw [hB, Int.toNat_natCast, r.1])
         | trace_state)
      | trace_state
  (all_goals (subst hA; subst h_c; subst h_fp; subst h_fW; subst h_fV; subst h_fA; subst h_fN; subst h_fE; subst h_fL; subst h_fA2; subst h_fN2; subst h_fE2; subst h_fs; subst h_fi; subst h_fw; subst h_fn); all_goals (have f_sl := SL.out; have f_hp := HP.out); all_goals (try simp only [std, stdBin, stdCmp, stdUna, stdIn, ci, beq_iff_eq, bne_iff_ne, beq_eq_false_iff_ne, bne_eq_false_iff_eq, decide_eq_true_eq, decide_eq_false_iff_not, Bool.not_true, Bool.not_false, Bool.not_eq_true', Bool.not_eq_false', Bool.not_not, tn0, tn1, tn2, tn3, lenP, sameL] at *); all_goals (try omega))
  all_goals (have hn9 : ¬ ((l.ls.length : Nat) : Int) > 60 := (by assumption); have hB := wrF_all (l := l) (by omega); have lw := wr_len f_hp l.ls.length (Nat.le_refl _))
  all_goals first
    | (show ((wrF [AV.d l]).length : Int) ≤ 140737488355328; rw [hB]; omega)
    | trace_state
end Go.Proofs.Ythklcldmoakbfaa
