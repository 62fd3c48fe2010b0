/- Layer 23: examples as a tensor. -/
import Derived.Test.YtmlfiphpcjkadaaDsA
namespace Go.Proofs.Ytmlfiphpcjkadaa
open Go.RowKit
set_option maxRecDepth 100000
set_option linter.unusedSimpArgs false
set_option linter.unusedVariables false
set_option maxHeartbeats 8000000
/-- What comes of a batch: an error, or a tensor and labels. -/
def batC (ts : List Ty) (tI tK : TypeId) (err : List AV → Int) (r : List AV → Tn) (lb : List AV → List Int) : Ctr :=
  ⟨ts, fun _ => none, fun xa => .ite (err xa = 0) (.ret (.tup [.agg [.hdl 0, .v (.int .i64 (r xa).exp), .hdl 1], .hdl 2, .v (.int .i64 0)]) [(0, .irow tI .i64 (r xa).dims), (2, .irow tK .i8 (r xa).data), (3, .irow tI .i64 (lb xa))])
    (.ret (.tup [.agg [.v (.slice none 0 0), .v (.int .i64 0), .v (.slice none 0 0)], .v (.slice none 0 0), .v (.int .i64 (err xa))]) []), false⟩
/-- All of them name one of so many. -/
def idsB (ids : List Int) (n : Int) : Bool := allTo (fun i => decide (0 ≤ ids.getD i 0 ∧ ids.getD i 0 < n)) ids.length
/-- The numbers of the first so many. -/
def catD (x : Dat) (ids : List Int) : Nat → List Int
  | 0 => []
  | m + 1 => catD x ids m ++ ((x.at (ids.getD m 0).toNat).fld 0).ints
def lbl (x : Dat) (ids : List Int) (i : Nat) : Int := ((x.at (ids.getD i 0).toNat).fld 1).z
def batErr (c h w e k : Int) (x : Dat) (ids : List Int) : Int := if mayDs c h w e k x = true ∧ (1 ≤ ids.length ∧ ids.length ≤ 64) ∧ idsB ids x.ls.length = true ∧ mayD [(ids.length : Int), c, h, w] = true then 0 else 1
def batRes (c h w e : Int) (x : Dat) (ids : List Int) : Tn := ⟨[(ids.length : Int), c, h, w], e, catD x ids ids.length⟩
def batE (xa : List AV) : Int := match xa with
  | [.st [.st [.z c, .z h, .z w], .z e, .z k, .d x], .l ids] => batErr c h w e k x ids
  | _ => 0
def batR (xa : List AV) : Tn := match xa with
  | [.st [.st [.z c, .z h, .z w], .z e, .z k, .d x], .l ids] => batRes c h w e x ids
  | _ => ⟨[], 0, []⟩
def batL (xa : List AV) : List Int := match xa with
  | [.st [.st [.z c, .z h, .z w], .z e, .z k, .d x], .l ids] => (List.range ids.length).map (lbl x ids)
  | _ => []
theorem allTo_at {g : Nat → Bool} : ∀ {n : Nat}, allTo g n = true → ∀ i, i < n → g i = true
  | 0, _, i, hi => by omega
  | n + 1, h, i, hi => by
    simp only [allTo, Bool.and_eq_true] at h
    by_cases e : i = n
    · subst e; first | exact h.2 | exact h.1
    · first | exact allTo_at h.1 i (by omega) | exact allTo_at h.2 i (by omega)
theorem allTo_of {g : Nat → Bool} : ∀ {n : Nat}, (∀ i, i < n → g i = true) → allTo g n = true
  | 0, _ => rfl
  | n + 1, h => by
    simp only [allTo, Bool.and_eq_true]
    have h1 := allTo_of (n := n) fun i hi => h i (by omega)
    have h2 := h n (by omega)
    first | exact ⟨h1, h2⟩ | exact ⟨h2, h1⟩
theorem ids_at {ids : List Int} {n : Int} (h : idsB ids n = true) (j : Nat) (hj : j < ids.length) : 0 ≤ ids.getD j 0 ∧ ids.getD j 0 < n := by
  have := allTo_at h j hj
  exact of_decide_eq_true this
theorem ids_of {ids : List Int} {n : Int} (h : ∀ j, j < ids.length → 0 ≤ ids.getD j 0 ∧ ids.getD j 0 < n) : idsB ids n = true := allTo_of fun j hj => decide_eq_true (h j hj)
theorem exam_len {c h w e k : Int} {x : Dat} (hm : mayDs c h w e k x = true) {i : Int} (h0 : 0 ≤ i) (h1 : i < x.ls.length) : ((x.at i.toNat).fld 0).ints.length = (c * h * w).toNat := by
  unfold mayDs at hm
  rw [Bool.and_eq_true] at hm
  have := allTo_at hm.2 i.toNat (by omega)
  unfold exB at this
  rw [decide_eq_true_eq] at this
  omega
theorem cat_len {c h w e k : Int} {x : Dat} {ids : List Int} (hm : mayDs c h w e k x = true) (hi : ∀ j, j < ids.length → 0 ≤ ids.getD j 0 ∧ ids.getD j 0 < x.ls.length) : ∀ j, j ≤ ids.length → (catD x ids j).length = j * (c * h * w).toNat
  | 0, _ => by simp [catD]
  | j + 1, hj => by
    have h1 := cat_len hm hi j (by omega)
    have h2 := hi j (by omega)
    rw [catD, List.length_append, h1, exam_len hm h2.1 h2.2, Nat.succ_mul]
/-- The data row behind so many examples. -/
def datK (c h w : Int) (x : Dat) (ids : List Int) (j : Nat) : List Int := catD x ids j ++ List.replicate ((ids.length - j) * (c * h * w).toNat) 0
theorem datK_len {c h w e k : Int} {x : Dat} {ids : List Int} (hm : mayDs c h w e k x = true) (hi : ∀ j, j < ids.length → 0 ≤ ids.getD j 0 ∧ ids.getD j 0 < x.ls.length) (j : Nat) (hj : j ≤ ids.length) : (datK c h w x ids j).length = ids.length * (c * h * w).toNat := by
  rw [datK, List.length_append, cat_len hm hi j hj, List.length_replicate, ← Nat.add_mul]
  congr 1; omega
theorem datK_copy {c h w e k : Int} {x : Dat} {ids : List Int} (hm : mayDs c h w e k x = true) (hi : ∀ j, j < ids.length → 0 ≤ ids.getD j 0 ∧ ids.getD j 0 < x.ls.length) {j : Nat} (hj : j < ids.length) {a n : Nat} {m : List Int} (hmm : m = ((x.at (ids.getD j 0).toNat).fld 0).ints) (ha : a = j * (c * h * w).toNat) (hn : (c * h * w).toNat ≤ n) :
    (datK c h w x ids j).take a ++ (m.take n ++ (datK c h w x ids j).drop (a + (m.take n).length)) = datK c h w x ids (j + 1) := by
  have h2 := hi j hj
  have hl : m.length = (c * h * w).toNat := by rw [hmm]; exact exam_len hm h2.1 h2.2
  have hc := cat_len hm hi j (by omega)
  have ht : m.take n = m := List.take_of_length_le (by omega)
  rw [ht, hl]
  have e1 : (datK c h w x ids j).take a = catD x ids j := by
    unfold datK
    rw [ha, ← hc, List.take_left]
  have e2 : (datK c h w x ids j).drop (a + (c * h * w).toNat) = List.replicate ((ids.length - (j + 1)) * (c * h * w).toNat) 0 := by
    unfold datK
    rw [ha, ← hc, ← List.drop_drop, List.drop_left, List.drop_replicate]
    congr 1
    have : ids.length - j = (ids.length - (j + 1)) + 1 := by omega
    rw [this, Nat.succ_mul]
    omega
  rw [e1, e2, hmm, ← List.append_assoc]
  rfl
theorem sz4 {n : Nat} {c h w : Int} (hc : 1 ≤ c ∧ c ≤ 8) (hh : 1 ≤ h ∧ h ≤ 16) (hw : 1 ≤ w ∧ w ≤ 16) (hd : mayD [(n : Int), c, h, w] = true) : (szD [(n : Int), c, h, w]).toNat = n * (c * h * w).toNat := by
  unfold szD
  rw [if_pos hd]
  have h1 := chw_in hc hh hw
  have e : prodFrom 1 [(n : Int), c, h, w] = (n : Int) * (c * h * w) := by
    simp only [prodFrom, List.foldl, Int.one_mul]
    rw [Int.mul_assoc, Int.mul_assoc, Int.mul_assoc]
  rw [e]
  obtain ⟨s, hs⟩ : ∃ s : Nat, c * h * w = (s : Int) := ⟨(c * h * w).toNat, by omega⟩
  rw [hs, ← Int.natCast_mul, Int.toNat_natCast, Int.toNat_natCast]
theorem of_ok : CtrOk Try.prog 23 (batC [dsTy, .sl (.int .i64)] 3 42 batE batR batL) := by
  obtain ⟨G, hG⟩ : ∃ G : List (FuncId × Ctr), G = [(16, boolC [dsTy] mayDsF), (74, boolC [.sl (.int .i64)] shMayF), (76, intC [.sl (.int .i64)] .i64 szF), (63, rowP [.sl (.int .i64)] 3 .i64 (lenP 8) sameL)] := ⟨_, rfl⟩
  refine fn_inl (ck := true) [(59, Try.f59), (75, Try.f75), (57, Try.f57), (73, Try.f73), (58, Try.f58)] ⟨⟨Try.func59, by unfold FnOk; kernel_rfl, by kernel_rfl⟩, ⟨Try.func75, by unfold FnOk; kernel_rfl, by kernel_rfl⟩, ⟨Try.func57, by unfold FnOk; kernel_rfl, by kernel_rfl⟩, ⟨Try.func73, by unfold FnOk; kernel_rfl, by kernel_rfl⟩, ⟨Try.func58, by unfold FnOk; kernel_rfl, by kernel_rfl⟩, trivial⟩ Try.func23 rfl tt_ok (G := G) (by rw [hG]; exact ⟨⟨mayDs_ok, by unfold FnOk; kernel_rfl⟩, ⟨shMay_ok, by unfold FnOk; kernel_rfl⟩, ⟨size_ok, by unfold FnOk; kernel_rfl⟩, ⟨cloneI_ok, by unfold FnOk; kernel_rfl⟩, trivial⟩) mixed (by kernel_rfl) ?_
  intro xa xs h hx hp
  obtain ⟨a0, as0, x0, xs0, rfl, rfl, h0, H1⟩ := svArgs_cons h
  obtain ⟨a1, as1, x1, xs1, rfl, rfl, h1, H2⟩ := svArgs_cons H1
  obtain ⟨rfl, rfl⟩ := svArgs_nil H2
  obtain ⟨dc, dh, dw, de, dk, dx, rfl, rfl⟩ := argSV_ds h0
  obtain ⟨l, rfl, rfl⟩ := argSV_ints h1
  have sd : (-9223372036854775808 ≤ dc ∧ dc ≤ 9223372036854775807) ∧ (-9223372036854775808 ≤ dh ∧ dh ≤ 9223372036854775807) ∧ (-9223372036854775808 ≤ dw ∧ dw ≤ 9223372036854775807) ∧ (-9223372036854775808 ≤ de ∧ de ≤ 9223372036854775807) ∧ (-9223372036854775808 ≤ dk ∧ dk ≤ 9223372036854775807) ∧ ((ci dx.ls.length ≤ 9223372036854775807) ∧ Wt (.sl exTy) dx) := svf_ds (hx (.agg [.v (.int .i64 dc), .v (.int .i64 dh), .v (.int .i64 dw), .v (.int .i64 de), .v (.int .i64 dk), .imm exTy dx]) (List.mem_of_getElem? (i := 0) rfl))
  have sl : Fits .i64 l ∧ ci l.length ≤ 9223372036854775807 := svf_ints (hx (.iimm .i64 l) (by simp))
  have SD := Lib.hid sd
  clear sd
  have SL := Lib.hid sl
  clear sl
  clear hx hp h h0 H1 h1 H2
  generalize hA : std = A
  subst hG
  generalize h_c : ci = c
  generalize h_fm : mayDsF = fm
  generalize h_fd : shMayF = fd
  generalize h_fz : szF = fz
  generalize h_fl : lenP 8 = fl
  generalize h_fc : sameL = fc
  generalize h_fE : batE = fE
  generalize h_fR : batR = fR
  generalize h_fL : batL = fL
  have hcs : (batErr dc dh dw de dk dx l = 0 ∧ (mayDs dc dh dw de dk dx = true ∧ (1 ≤ l.length ∧ l.length ≤ 64) ∧ idsB l dx.ls.length = true ∧ mayD [(l.length : Int), dc, dh, dw] = true)) ∨ (batErr dc dh dw de dk dx l = 1 ∧ ¬ (mayDs dc dh dw de dk dx = true ∧ (1 ≤ l.length ∧ l.length ≤ 64) ∧ idsB l dx.ls.length = true ∧ mayD [(l.length : Int), dc, dh, dw] = true)) := by
    unfold batErr
    by_cases h : mayDs dc dh dw de dk dx = true ∧ (1 ≤ l.length ∧ l.length ≤ 64) ∧ idsB l dx.ls.length = true ∧ mayD [(l.length : Int), dc, dh, dw] = true
    · exact .inl ⟨if_pos h, h⟩
    · exact .inr ⟨if_neg h, h⟩
  have HCS := Lib.hid hcs
  clear hcs
  obtain ⟨K, hK⟩ : ∃ K : Nat → List Int, ∀ j, K j = datK dc dh dw dx l j := ⟨_, fun _ => rfl⟩
  obtain ⟨B, hB⟩ : ∃ B : Nat → List Int, ∀ j, B j = mixL (fun _ => 0) (lbl dx l) l.length j := ⟨_, fun _ => rfl⟩
  have HK := Lib.hid hK
  have HB := Lib.hid hB
  clear hK hB
  cbv
  (repeat' (first | apply And.intro | apply BrB.mk | apply BrP.mk | intro _))
  all_goals try (refine loop_at Nat 8 (fun x => [(4, .any), (5, .any), (8, .v (.int .i64 (c x)))]) (fun _ o => o) (fun x => x ≤ l.length ∧ ∀ j, j < x → 0 ≤ l.getD j 0 ∧ l.getD j 0 < ci dx.ls.length) (fun x => l.length - x) 0 ?h0 ?hle ?round)
  case h0 => exact ⟨Nat.zero_le _, fun j hj => absurd hj (Nat.not_lt_zero _)⟩
  case hle => (cbv; (repeat' (first | apply And.intro | apply BrB.mk | apply BrP.mk | intro _)); all_goals (subst hA; subst h_c; subst h_fm; subst h_fd; subst h_fz; subst h_fl; subst h_fc; subst h_fE; subst h_fR; subst h_fL); all_goals (have f_sd := SD.out; have f_sl := SL.out); all_goals (try simp only [std, stdBin, stdCmp, stdUna, stdIn, ci, beq_iff_eq, bne_iff_ne, beq_eq_false_iff_ne, bne_eq_false_iff_eq, decide_eq_true_eq, decide_eq_false_iff_not, Bool.not_true, Bool.not_false, Bool.not_eq_true', Bool.not_eq_false', Bool.not_not, tn0, tn1, tn2, tn3] at *); (all_goals first | exact True.intro | rfl | exact congrArg (Value.int .i64) (by omega)))
  case round =>
    intro x hx
    cbv
    refine BrB.mk (fun gx => ?yx) (fun gx => ?nx)
    case yx =>
      (repeat' (first | apply And.intro | apply BrB.mk | apply BrP.mk | intro _))
      (all_goals try (exfalso; (subst hA; subst h_c; subst h_fm; subst h_fd; subst h_fz; subst h_fl; subst h_fc; subst h_fE; subst h_fR; subst h_fL); (try simp only [std, stdBin, stdCmp, stdUna, stdIn, ci, beq_iff_eq, bne_iff_ne, beq_eq_false_iff_ne, bne_eq_false_iff_eq, decide_eq_true_eq, decide_eq_false_iff_not, Bool.not_true, Bool.not_false, Bool.not_eq_true', Bool.not_eq_false', Bool.not_not, tn0, tn1, tn2, tn3] at *); first | omega | contradiction))
      all_goals try (refine ⟨x + 1, ?_, ?_, ?_⟩)
      all_goals try (show AS.le _ _; (cbv; (repeat' (first | apply And.intro | apply BrB.mk | apply BrP.mk | intro _)); all_goals (subst hA; subst h_c; subst h_fm; subst h_fd; subst h_fz; subst h_fl; subst h_fc; subst h_fE; subst h_fR; subst h_fL); all_goals (have f_sd := SD.out; have f_sl := SL.out); all_goals (try simp only [std, stdBin, stdCmp, stdUna, stdIn, ci, beq_iff_eq, bne_iff_ne, beq_eq_false_iff_ne, bne_eq_false_iff_eq, decide_eq_true_eq, decide_eq_false_iff_not, Bool.not_true, Bool.not_false, Bool.not_eq_true', Bool.not_eq_false', Bool.not_not, tn0, tn1, tn2, tn3] at *); (all_goals first | exact True.intro | rfl | exact congrArg (Value.int .i64) (by omega))))
      (all_goals (subst hA; subst h_c; subst h_fm; subst h_fd; subst h_fz; subst h_fl; subst h_fc; subst h_fE; subst h_fR; subst h_fL); all_goals (have f_sd := SD.out; have f_sl := SL.out); all_goals (try simp only [std, stdBin, stdCmp, stdUna, stdIn, ci, beq_iff_eq, bne_iff_ne, beq_eq_false_iff_ne, bne_eq_false_iff_eq, decide_eq_true_eq, decide_eq_false_iff_not, Bool.not_true, Bool.not_false, Bool.not_eq_true', Bool.not_eq_false', Bool.not_not, tn0, tn1, tn2, tn3, mayDsF, Int.toNat_natCast] at *); all_goals (try omega))
      all_goals first
        | (refine ⟨by omega, fun j hj => ?_⟩
           by_cases e : j = x
           · subst e; omega
           · exact hx.2 j (by omega))
        | skip
      all_goals (rcases HCS.out with ⟨e0, hC⟩ | ⟨e1, hC⟩); all_goals first | (show Value.int .i64 1 = Value.int .i64 (batErr dc dh dw de dk dx l); rw [e1]) | (exfalso; have e2 : batErr dc dh dw de dk dx l = 0 := (by assumption); omega) | (exfalso; obtain ⟨h1, h2, h3', h4'⟩ := hC; have h3 : idsB l (dx.ls.length : Int) = true := h3'; have h4 : mayD [(l.length : Int), dc, dh, dw] = true := h4'; have h5 := ex_hd (Bool.and_eq_true _ _ ▸ h1 : _ ∧ _).1; first | omega | (have h9 : x < l.length := (by omega); have h6 := ids_at h3 x h9; omega) | (have h7 : mayDs dc dh dw de dk dx = false := (by assumption); rw [h1] at h7; cases h7) | (have h8 : mayD [(l.length : Int), dc, dh, dw] = false := (by assumption); rw [h4] at h8; cases h8))
    case nx =>
      (repeat' (first | apply And.intro | apply BrB.mk | apply BrP.mk | intro _))
      (all_goals try (exfalso; (subst hA; subst h_c; subst h_fm; subst h_fd; subst h_fz; subst h_fl; subst h_fc; subst h_fE; subst h_fR; subst h_fL); (try simp only [std, stdBin, stdCmp, stdUna, stdIn, ci, beq_iff_eq, bne_iff_ne, beq_eq_false_iff_ne, bne_eq_false_iff_eq, decide_eq_true_eq, decide_eq_false_iff_not, Bool.not_true, Bool.not_false, Bool.not_eq_true', Bool.not_eq_false', Bool.not_not, tn0, tn1, tn2, tn3] at *); first | omega | contradiction))
      all_goals try (refine loop_at Nat 58 (fun j => [(10, .any), (11, .any), (12, .any), (58, .v (.int .i64 (c j)))]) (fun j o => (o.set 5 (.irow 42 .i8 (K j))).set 7 (.irow 3 .i64 (B j))) (fun j => j ≤ l.length) (fun j => l.length - j) 0 (Nat.zero_le _) ?hleB ?roundB)
      case hleB =>
        cbv
        (repeat' (first | apply And.intro | apply BrB.mk | apply BrP.mk | intro _))
        (all_goals (subst hA; subst h_c; subst h_fm; subst h_fd; subst h_fz; subst h_fl; subst h_fc; subst h_fE; subst h_fR; subst h_fL); all_goals (have f_sd := SD.out; have f_sl := SL.out); all_goals (try simp only [std, stdBin, stdCmp, stdUna, stdIn, ci, beq_iff_eq, bne_iff_ne, beq_eq_false_iff_ne, bne_eq_false_iff_eq, decide_eq_true_eq, decide_eq_false_iff_not, Bool.not_true, Bool.not_false, Bool.not_eq_true', Bool.not_eq_false', Bool.not_not, tn0, tn1, tn2, tn3, mayDsF, shMayF, szF, sameL] at *); all_goals (try omega))
        all_goals (have hm : mayDs dc dh dw de dk dx = true := (by assumption); have h5 := ex_hd (Bool.and_eq_true _ _ ▸ hm : _ ∧ _).1; have hi : ∀ j, j < l.length → 0 ≤ l.getD j 0 ∧ l.getD j 0 < (dx.ls.length : Int) := (fun j hj => hx.2 j (by omega)); have hd : mayD [(l.length : Int), dc, dh, dw] = true := (by assumption); have hch := chw_in h5.1 h5.2.1 h5.2.2.1; have hsz4 := sz4 h5.1 h5.2.1 h5.2.2.1 hd; have k0 : K 0 = datK dc dh dw dx l 0 := HK.out 0; have b0 : B 0 = mixL (fun _ => 0) (lbl dx l) l.length 0 := HB.out 0; have hok : batErr dc dh dw de dk dx l = 0 := (by rcases HCS.out with ⟨e0, hC⟩ | ⟨e1, hC⟩ <;> first | exact e0 | exact absurd ⟨hm, ⟨by omega, by omega⟩, ids_of hi, hd⟩ hC))
        all_goals first
          | rfl
          | (show List.replicate (szD [(l.length : Int), dc, dh, dw]).toNat 0 = K 0; rw [k0, hsz4]; simp only [datK, catD, List.nil_append, Nat.sub_zero])
          | (show List.replicate (l.length : Int).toNat 0 = B 0; rw [b0, mixL_nil, Int.toNat_natCast])
          | trace_state
      case roundB =>
        intro j hj
        cbv
        refine BrB.mk (fun ga => ?yb) (fun ga => ?nb)
        case yb =>
          (repeat' (first | apply And.intro | apply BrB.mk | apply BrP.mk | intro _))
          all_goals try (refine ⟨j + 1, ?_, ?_, ?_⟩)
          all_goals try (show AS.le _ _; cbv; (repeat' (first | apply And.intro | apply BrB.mk | apply BrP.mk | intro _)))
          (all_goals (subst hA; subst h_c; subst h_fm; subst h_fd; subst h_fz; subst h_fl; subst h_fc; subst h_fE; subst h_fR; subst h_fL); all_goals (have f_sd := SD.out; have f_sl := SL.out); all_goals (try simp only [std, stdBin, stdCmp, stdUna, stdIn, ci, beq_iff_eq, bne_iff_ne, beq_eq_false_iff_ne, bne_eq_false_iff_eq, decide_eq_true_eq, decide_eq_false_iff_not, Bool.not_true, Bool.not_false, Bool.not_eq_true', Bool.not_eq_false', Bool.not_not, tn0, tn1, tn2, tn3, mayDsF, shMayF, szF, sameL, Int.toNat_natCast] at *); all_goals (try omega))
          all_goals (have hm : mayDs dc dh dw de dk dx = true := (by assumption); have h5 := ex_hd (Bool.and_eq_true _ _ ▸ hm : _ ∧ _).1; have hi : ∀ j, j < l.length → 0 ≤ l.getD j 0 ∧ l.getD j 0 < (dx.ls.length : Int) := (fun j hj => hx.2 j (by omega)); have hd : mayD [(l.length : Int), dc, dh, dw] = true := (by assumption); have hch := chw_in h5.1 h5.2.1 h5.2.2.1; have hsz4 := sz4 h5.1 h5.2.1 h5.2.2.1 hd; have k0 : K 0 = datK dc dh dw dx l 0 := HK.out 0; have b0 : B 0 = mixL (fun _ => 0) (lbl dx l) l.length 0 := HB.out 0; have hok : batErr dc dh dw de dk dx l = 0 := (by rcases HCS.out with ⟨e0, hC⟩ | ⟨e1, hC⟩ <;> first | exact e0 | exact absurd ⟨hm, ⟨by omega, by omega⟩, ids_of hi, hd⟩ hC))
          all_goals (have hj2 : j < l.length := (by omega); have kj : K j = datK dc dh dw dx l j := HK.out j; have kj2 : K (j + 1) = datK dc dh dw dx l (j + 1) := HK.out (j + 1); have bj : B j = mixL (fun _ => 0) (lbl dx l) l.length j := HB.out j; have bj2 : B (j + 1) = mixL (fun _ => 0) (lbl dx l) l.length (j + 1) := HB.out (j + 1); have kl := datK_len hm hi j (by omega); have id := hi j hj2; have xl := exam_len hm id.1 id.2; have bl := mixL_len (fun _ => 0) (lbl dx l) l.length j; rw [← kj] at kl; rw [← bj] at bl)
          all_goals (have mu : j * (dc * dh * dw).toNat ≤ l.length * (dc * dh * dw).toNat := Nat.mul_le_mul_right _ (by omega); have mu2 : (j + 1) * (dc * dh * dw).toNat ≤ l.length * (dc * dh * dw).toNat := Nat.mul_le_mul_right _ (by omega); have mu3 : l.length * (dc * dh * dw).toNat ≤ 64 * 2048 := Nat.mul_le_mul (by omega) (by omega))
          all_goals (have pm : (j : Int) * (((dx.at (l.getD j 0).toNat).fld 0).ints.length : Int) = ((j * (dc * dh * dw).toNat : Nat) : Int) := (by rw [xl, Int.natCast_mul]))
          all_goals first
            | exact id
            | (refine congrArg (Value.int .i64) ?_; omega)
            | (show (B j).set j ((dx.at (l.getD j 0).toNat).fld 1).z = B (j + 1); rw [bj, bj2]; exact mixL_store hj2 rfl)
            | (show _ = K (j + 1); rw [kj2, kj]; rw [Nat.succ_mul] at mu2; rw [kj] at kl; exact datK_copy hm hi hj2 rfl (by rw [pm, Int.toNat_natCast]) (by rw [kl, pm]; omega))
            | (rw [pm]; omega)
            | omega
            | trace_state
        case nb =>
          (repeat' (first | apply And.intro | apply BrB.mk | apply BrP.mk | intro _))
          (all_goals (subst hA; subst h_c; subst h_fm; subst h_fd; subst h_fz; subst h_fl; subst h_fc; subst h_fE; subst h_fR; subst h_fL); all_goals (have f_sd := SD.out; have f_sl := SL.out); all_goals (try simp only [std, stdBin, stdCmp, stdUna, stdIn, ci, beq_iff_eq, bne_iff_ne, beq_eq_false_iff_ne, bne_eq_false_iff_eq, decide_eq_true_eq, decide_eq_false_iff_not, Bool.not_true, Bool.not_false, Bool.not_eq_true', Bool.not_eq_false', Bool.not_not, tn0, tn1, tn2, tn3, mayDsF, shMayF, szF, sameL, Int.toNat_natCast] at *); all_goals (try omega))
          all_goals (have hm : mayDs dc dh dw de dk dx = true := (by assumption); have h5 := ex_hd (Bool.and_eq_true _ _ ▸ hm : _ ∧ _).1; have hi : ∀ j, j < l.length → 0 ≤ l.getD j 0 ∧ l.getD j 0 < (dx.ls.length : Int) := (fun j hj => hx.2 j (by omega)); have hd : mayD [(l.length : Int), dc, dh, dw] = true := (by assumption); have hch := chw_in h5.1 h5.2.1 h5.2.2.1; have hsz4 := sz4 h5.1 h5.2.1 h5.2.2.1 hd; have k0 : K 0 = datK dc dh dw dx l 0 := HK.out 0; have b0 : B 0 = mixL (fun _ => 0) (lbl dx l) l.length 0 := HB.out 0; have hok : batErr dc dh dw de dk dx l = 0 := (by rcases HCS.out with ⟨e0, hC⟩ | ⟨e1, hC⟩ <;> first | exact e0 | exact absurd ⟨hm, ⟨by omega, by omega⟩, ids_of hi, hd⟩ hC))
          all_goals (have jl : j = l.length := (by omega); have kj : K j = datK dc dh dw dx l j := HK.out j; have bj : B j = mixL (fun _ => 0) (lbl dx l) l.length j := HB.out j; rw [jl] at kj bj)
          all_goals first
            | exact True.intro
            | rfl
            | (show K j = catD dx l l.length; rw [jl, kj]; unfold datK; rw [Nat.sub_self, Nat.zero_mul]; exact List.append_nil _)
            | (show B j = (List.range l.length).map (lbl dx l); rw [jl, bj]; exact mixL_all _ _ _)
            | (exfalso; have e3 : ¬ batErr dc dh dw de dk dx l = 0 := (by assumption); exact e3 hok)
            | (exfalso; have e3 : batErr dc dh dw de dk dx l = 1 := (by assumption); omega)
            | trace_state
      (all_goals (subst hA; subst h_c; subst h_fm; subst h_fd; subst h_fz; subst h_fl; subst h_fc; subst h_fE; subst h_fR; subst h_fL); all_goals (have f_sd := SD.out; have f_sl := SL.out); all_goals (try simp only [std, stdBin, stdCmp, stdUna, stdIn, ci, beq_iff_eq, bne_iff_ne, beq_eq_false_iff_ne, bne_eq_false_iff_eq, decide_eq_true_eq, decide_eq_false_iff_not, Bool.not_true, Bool.not_false, Bool.not_eq_true', Bool.not_eq_false', Bool.not_not, tn0, tn1, tn2, tn3, mayDsF, shMayF, szF, sameL, lenP] at *); all_goals (try omega))
      all_goals first | omega | (have hi : ∀ j, j < l.length → 0 ≤ l.getD j 0 ∧ l.getD j 0 < (dx.ls.length : Int) := (fun j hj => hx.2 j (by omega)); have q0 := szD_in [(l.length : Int), dc, dh, dw]; first | (show (4 : Int) * 8 ≤ _; decide) | omega | (rcases HCS.out with ⟨e0, hC⟩ | ⟨e1, hC⟩ <;> first | (exfalso; obtain ⟨h1, h2, h3', h4'⟩ := hC; have h4 : mayD [(l.length : Int), dc, dh, dw] = true := h4'; have h5 := ex_hd (Bool.and_eq_true _ _ ▸ h1 : _ ∧ _).1; first | omega | (have h8 : mayD [(l.length : Int), dc, dh, dw] = false := (by assumption); rw [h4] at h8; cases h8)) | (show Value.int .i64 1 = Value.int .i64 (batErr dc dh dw de dk dx l); rw [e1]) | (exfalso; have e2 : batErr dc dh dw de dk dx l = 0 := (by assumption); omega) | trace_state))
  (all_goals (subst hA; subst h_c; subst h_fm; subst h_fd; subst h_fz; subst h_fl; subst h_fc; subst h_fE; subst h_fR; subst h_fL); all_goals (have f_sd := SD.out; have f_sl := SL.out); all_goals (try simp only [std, stdBin, stdCmp, stdUna, stdIn, ci, beq_iff_eq, bne_iff_ne, beq_eq_false_iff_ne, bne_eq_false_iff_eq, decide_eq_true_eq, decide_eq_false_iff_not, Bool.not_true, Bool.not_false, Bool.not_eq_true', Bool.not_eq_false', Bool.not_not, tn0, tn1, tn2, tn3, mayDsF] at *); all_goals (try omega))
  have x := 0
  all_goals (rcases HCS.out with ⟨e0, hC⟩ | ⟨e1, hC⟩); all_goals first | (show Value.int .i64 1 = Value.int .i64 (batErr dc dh dw de dk dx l); rw [e1]) | (exfalso; have e2 : batErr dc dh dw de dk dx l = 0 := (by assumption); omega) | (exfalso; obtain ⟨h1, h2, h3', h4'⟩ := hC; have h3 : idsB l (dx.ls.length : Int) = true := h3'; have h4 : mayD [(l.length : Int), dc, dh, dw] = true := h4'; have h5 := ex_hd (Bool.and_eq_true _ _ ▸ h1 : _ ∧ _).1; first | omega | (have h9 : x < l.length := (by omega); have h6 := ids_at h3 x h9; omega) | (have h7 : mayDs dc dh dw de dk dx = false := (by assumption); rw [h1] at h7; cases h7) | (have h8 : mayD [(l.length : Int), dc, dh, dw] = false := (by assumption); rw [h4] at h8; cases h8))
end Go.Proofs.Ytmlfiphpcjkadaa
