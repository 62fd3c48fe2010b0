/- Layer 3: what is written, in all. -/
import Derived.Test.YthklcldmoakbfaaOctE
namespace Go.Proofs.Ythklcldmoakbfaa
open Go.RowKit
set_option maxRecDepth 100000
set_option linter.unusedSimpArgs false
set_option linter.unusedVariables false
set_option maxHeartbeats 16000000
set_option cbv.maxSteps 10000000
/-- The bytes of a call. -/
def encC (d n : Int) (r : List Int) : List Int :=
  if d = 0 then [byteD (IntKind.i64.wrap n) 0] else if d = 1 then l16 (IntKind.i64.wrap n) else if d = 2 then l32 (IntKind.u32.wrap n) else if d = 3 then l64 n else r
def encAt (l : Dat) (k : Nat) : List Int := encC ((l.at k).fld 0).z ((l.at k).fld 1).z ((l.at k).fld 2).ints
def wrK (l : Dat) : Nat → List Int
  | 0 => []
  | k + 1 => wrK l k ++ encAt l k
def sixty (n : Nat) : Nat := min 60 n
def wrP (xa : List AV) : Prop := match xa with
  | [.d l] => ∀ k, k < l.ls.length → (((l.at k).fld 2).ints.length : Int) ≤ 1073741824
  | _ => False
def wrF (xa : List AV) : List Int := match xa with
  | [.d l] => wrK l (sixty l.ls.length)
  | _ => []
def twoP (ts : List Ty) (E : TypeId) (k : IntKind) (p : List AV → Prop) (f : List AV → List Int) : Ctr := ⟨ts, fun xa => some (p xa), fun xa => .ret (.tup [.hdl 0, .hdl 1]) [(0, .irow E k (f xa)), (1, .irow E k (f xa))], false⟩
theorem enc_len {d n : Int} {r : List Int} (h : (r.length : Int) ≤ 1073741824) : ((encC d n r).length : Int) ≤ 1073741824 := by
  unfold encC
  split
  · show (1 : Int) ≤ _; decide
  split
  · show (2 : Int) ≤ _; decide
  split
  · show (4 : Int) ≤ _; decide
  split
  · show (8 : Int) ≤ _; decide
  exact h
theorem wr_len {l : Dat} (h : wrP [.d l]) : ∀ k, k ≤ l.ls.length → ((wrK l k).length : Int) ≤ k * 1073741824
  | 0, _ => by simp [wrK]
  | k + 1, hk => by
    have h1 := wr_len h k (by omega)
    have h2 : ((encAt l k).length : Int) ≤ 1073741824 := enc_len (h k (by omega))
    rw [wrK, List.length_append]
    push_cast
    omega
/-- The number whose bytes are laid, so many. -/
def numQ (q : Int) (n : Int) : Int := if q = 4 then IntKind.u32.wrap n else if q = 8 then n else IntKind.u64.wrap (IntKind.i64.wrap n)
theorem enc1 {d n : Int} {r : List Int} (h : d = 0) : encC d n r = [byteD (IntKind.i64.wrap n) 0] ∧ putK (numQ 1 n) 1 1 = [byteD (IntKind.i64.wrap n) 0] := by
  subst h; exact ⟨rfl, put1 _⟩
theorem enc2 {d n : Int} {r : List Int} (h : d = 1) : encC d n r = l16 (IntKind.i64.wrap n) ∧ putK (numQ 2 n) 2 2 = l16 (IntKind.i64.wrap n) := by
  subst h; exact ⟨rfl, put2 _⟩
theorem enc4 {d n : Int} {r : List Int} (h : d = 2) : encC d n r = l32 (IntKind.u32.wrap n) ∧ putK (numQ 4 n) 4 4 = l32 (IntKind.u32.wrap n) := by
  subst h; exact ⟨rfl, put4 _⟩
theorem enc8 {d n : Int} {r : List Int} (h : d = 3) : encC d n r = l64 n ∧ putK (numQ 8 n) 8 8 = l64 n := by
  subst h; exact ⟨rfl, put8 _⟩
theorem encR {d n : Int} {r : List Int} (h0 : d ≠ 0) (h1 : d ≠ 1) (h2 : d ≠ 2) (h3 : d ≠ 3) : encC d n r = r := by
  unfold encC
  rw [if_neg h0, if_neg h1, if_neg h2, if_neg h3]
theorem byte_one (n : Int) : [IntKind.u8.wrap n] = [byteD (IntKind.i64.wrap n) 0] := by
  rw [byteD0, wrap_u8, wrap_u8]
  congr 1
  simp only [IntKind.wrap, IntKind.bits, IntKind.signed]
  (try simp)
  (try split) <;> omega
theorem written_ok : CtrOk Try.prog 7 (twoP [.sl callTy] 5 .u8 wrP wrF) := by
  obtain ⟨G, hG⟩ : ∃ G : List (FuncId × Ctr), G = [(32, rowP [.sl (.int .u8)] 5 .u8 (lenP 1) sameL), (25, rowC [.int .i64] 5 .u8 (oneF l16)), (27, rowC [.int .u32] 5 .u8 (oneF l32)), (29, rowC [.int .u64] 5 .u8 (oneF l64))] := ⟨_, rfl⟩
  refine fn_inl (ck := true) [(23, Try.f23), (24, Try.f24), (26, Try.f26), (28, Try.f28), (36, Try.f36), (30, Try.f30), (31, Try.f31)] ⟨⟨Try.func23, by unfold FnOk; kernel_rfl, by kernel_rfl⟩, ⟨Try.func24, by unfold FnOk; kernel_rfl, by kernel_rfl⟩, ⟨Try.func26, by unfold FnOk; kernel_rfl, by kernel_rfl⟩, ⟨Try.func28, by unfold FnOk; kernel_rfl, by kernel_rfl⟩, ⟨Try.func36, by unfold FnOk; kernel_rfl, by kernel_rfl⟩, ⟨Try.func30, by unfold FnOk; kernel_rfl, by kernel_rfl⟩, ⟨Try.func31, by unfold FnOk; kernel_rfl, by kernel_rfl⟩, trivial⟩ Try.func7 rfl tt_ok (G := G) (by rw [hG]; exact ⟨⟨cloneB_ok, by unfold FnOk; kernel_rfl⟩, ⟨r16_ok, by unfold FnOk; kernel_rfl⟩, ⟨r32_ok, by unfold FnOk; kernel_rfl⟩, ⟨r64_ok, by unfold FnOk; kernel_rfl⟩, trivial⟩) mixed (by kernel_rfl) ?_
  intro xa xs h hx hp
  obtain ⟨a0, as0, x0, xs0, rfl, rfl, h0, H1⟩ := svArgs_cons h
  obtain ⟨rfl, rfl⟩ := svArgs_nil H1
  obtain ⟨l, rfl, rfl⟩ := argSV_rows h0
  have sl : ci l.ls.length ≤ 9223372036854775807 ∧ Wt (.sl callTy) l := ⟨wtl_len (hx (.imm callTy l) (List.mem_of_getElem? (i := 0) rfl)), hx (.imm callTy l) (List.mem_of_getElem? (i := 0) rfl)⟩
  have SL := Lib.hid sl
  clear sl
  have HP := Lib.hid (hp _ rfl)
  clear hx hp h h0 H1
  generalize hA : std = A
  subst hG
  generalize h_c : ci = c
  generalize h_fl : lenP 1 = fl
  generalize h_fc : sameL = fc
  generalize h_f16 : oneF l16 = f16
  generalize h_f32 : oneF l32 = f32
  generalize h_f64 : oneF l64 = f64
  generalize h_fW : wrF = fW
  obtain ⟨W, hW⟩ : ∃ W : Nat → List Int, ∀ k, W k = wrK l k := ⟨_, fun _ => rfl⟩
  obtain ⟨Q, hQ⟩ : ∃ Q : Int → Nat → Nat → List Int, ∀ q k j, Q q k j = wrK l k ++ putK (numQ q ((l.at k).fld 1).z) q j := ⟨_, fun _ _ _ => rfl⟩
  obtain ⟨T, hT⟩ : ∃ T : Int → Nat → Int, ∀ (q : Int) (j : Nat), T q j = q - 1 - (j : Int) := ⟨_, fun _ _ => rfl⟩
  have HW := Lib.hid hW
  have HQ := Lib.hid hQ
  have HT := Lib.hid hT
  clear hW hQ hT
  cbv
  (repeat' (first | apply And.intro | apply BrB.mk | apply BrP.mk | intro _))
  all_goals try (refine loop_nil [.cell 0 0 5 .u8, .slot 5 5 .u8] Nat 12 (fun k => [(5, .hdl 2), (6, .any), (7, .any), (12, .v (.int .i64 (c k)))]) (fun k o => (o.set 1 (.irow 5 .u8 (W k))).set 2 (.irow 5 .u8 (W k))) (fun k => k ≤ 60 ∧ k ≤ l.ls.length) (fun k => l.ls.length - k) 0 ?h0 ?hle ?round)
  case h0 => exact ⟨Nat.zero_le _, Nat.zero_le _⟩
  case hle =>
    cbv
    (repeat' (first | apply And.intro | apply BrB.mk | apply BrP.mk | intro _))
    (all_goals (subst hA; subst h_c; subst h_fl; subst h_fc; subst h_f16; subst h_f32; subst h_f64; subst h_fW); all_goals (have f_sl := SL.out; have f_hp := HP.out); all_goals (try simp only [std, stdBin, stdCmp, stdUna, stdIn, ci, beq_iff_eq, bne_iff_ne, beq_eq_false_iff_ne, bne_eq_false_iff_eq, decide_eq_true_eq, decide_eq_false_iff_not, Bool.not_true, Bool.not_false, Bool.not_eq_true', Bool.not_eq_false', Bool.not_not, tn0, tn1, tn2, tn3] at *); all_goals (try omega))
    all_goals (have w0 := HW.out 0)
    all_goals first | exact True.intro | rfl | (show [] = W 0; rw [w0]; rfl) | skip
  case round =>
    intro k hk
    cbv
    refine BrB.mk (fun gx => ?yx) (fun gx => ?nx)
    case yx =>
      (repeat' (first | apply And.intro | apply BrB.mk | apply BrP.mk | intro _))
      case right.no.yes.right =>
        refine loop_at Nat 7 (fun j => [(6, .v (.int .i64 (T 1 j)))]) (fun j o => o.set 1 (.irow 5 .u8 (Q 1 k j))) (fun j => j ≤ 1) (fun j => 1 - j) 0 (Nat.zero_le _) ?_ ?_
        · cbv
          (repeat' (first | apply And.intro | apply BrB.mk | apply BrP.mk | intro _))
          (all_goals (subst hA; subst h_c; subst h_fl; subst h_fc; subst h_f16; subst h_f32; subst h_f64; subst h_fW); all_goals (have f_sl := SL.out; have f_hp := HP.out); all_goals (try simp only [std, stdBin, stdCmp, stdUna, stdIn, ci, beq_iff_eq, bne_iff_ne, beq_eq_false_iff_ne, bne_eq_false_iff_eq, decide_eq_true_eq, decide_eq_false_iff_not, Bool.not_true, Bool.not_false, Bool.not_eq_true', Bool.not_eq_false', Bool.not_not, tn0, tn1, tn2, tn3, Int.toNat_natCast] at *); all_goals (try omega))
          all_goals (have w1 : W k = wrK l k := HW.out k; have t1 : T 1 0 = 1 - 1 - ((0 : Nat) : Int) := HT.out 1 0; have q1 : Q 1 k 0 = wrK l k ++ [] := HQ.out 1 k 0)
          all_goals first
            | exact True.intro
            | (refine congrArg (Value.int .i64) ?_; omega)
            | (show W k = Q 1 k 0; rw [w1, q1, List.append_nil])
            | trace_state
        · intro j hj
          cbv
          refine BrB.mk (fun ga => ?_) (fun ga => ?_)
          · (repeat' (first | apply And.intro | apply BrB.mk | apply BrP.mk | intro _))
            all_goals try (refine ⟨j + 1, ?_, ?_, ?_⟩)
            all_goals try (show AS.le _ _; cbv; (repeat' (first | apply And.intro | apply BrB.mk | apply BrP.mk | intro _)))
            (all_goals (subst hA; subst h_c; subst h_fl; subst h_fc; subst h_f16; subst h_f32; subst h_f64; subst h_fW); all_goals (have f_sl := SL.out; have f_hp := HP.out); all_goals (try simp only [std, stdBin, stdCmp, stdUna, stdIn, ci, beq_iff_eq, bne_iff_ne, beq_eq_false_iff_ne, bne_eq_false_iff_eq, decide_eq_true_eq, decide_eq_false_iff_not, Bool.not_true, Bool.not_false, Bool.not_eq_true', Bool.not_eq_false', Bool.not_not, tn0, tn1, tn2, tn3, Int.toNat_natCast] at *); all_goals (try omega))
            all_goals (have t1 : T 1 j = 1 - 1 - (j : Int) := HT.out 1 j; have t2 : T 1 (j + 1) = 1 - 1 - ((j + 1 : Nat) : Int) := HT.out 1 (j + 1); have q1 := HQ.out 1 k j; have q2 := HQ.out 1 k (j + 1); have lk := wr_len f_hp k hk.2; have ql : (Q 1 k j).length = (wrK l k).length + j := (by rw [q1, List.length_append, putK_len]))
            all_goals first
              | exact True.intro
              | omega
              | (show (((Q 1 k j).length : Int) + 1) * 1 ≤ 140737488355328 ∧ ((Q 1 k j).length : Int) + 1 ≤ 281474976710656; rw [ql]; push_cast; omega)
              | (show Value.int .i64 (T 1 j - 1) = Value.int .i64 (T 1 (j + 1)); exact congrArg (Value.int .i64) (by omega))
              | (show _ = Q 1 k (j + 1); rw [q2, putK, ← List.append_assoc, ← q1, t1]; rfl)
              | trace_state
          · (repeat' (first | apply And.intro | apply BrB.mk | apply BrP.mk | intro _))
            all_goals try (refine ⟨k + 1, ?_, ?_, ?_⟩)
            all_goals try (show AS.le _ _; cbv; (repeat' (first | apply And.intro | apply BrB.mk | apply BrP.mk | intro _)))
            (all_goals (subst hA; subst h_c; subst h_fl; subst h_fc; subst h_f16; subst h_f32; subst h_f64; subst h_fW); all_goals (have f_sl := SL.out; have f_hp := HP.out); all_goals (try simp only [std, stdBin, stdCmp, stdUna, stdIn, ci, beq_iff_eq, bne_iff_ne, beq_eq_false_iff_ne, bne_eq_false_iff_eq, decide_eq_true_eq, decide_eq_false_iff_not, Bool.not_true, Bool.not_false, Bool.not_eq_true', Bool.not_eq_false', Bool.not_not, tn0, tn1, tn2, tn3, Int.toNat_natCast] at *); all_goals (try omega))
            all_goals (have t1 : T 1 j = 1 - 1 - (j : Int) := HT.out 1 j; have ej : j = 1 := (by omega); have q1 := HQ.out 1 k j; rw [ej] at q1; have lk := wr_len f_hp k hk.2; have w1 : W k = wrK l k := HW.out k; have w2 : W (k + 1) = wrK l k ++ encAt l k := HW.out (k + 1); have en := enc1 (n := ((l.at k).fld 1).z) (r := ((l.at k).fld 2).ints) (show ((l.at k).fld 0).z = 0 by assumption))
            all_goals first
              | exact True.intro
              | omega
              | (show Q 1 k j = W (k + 1); rw [ej, q1, w2, encAt, en.1, en.2])
              | (show _ = W (k + 1); rw [w2, w1, encAt, en.1]; first | rfl | exact congrArg _ (byte_one _))
              | (show (((W k).length : Int) + 1) * 1 ≤ 140737488355328 ∧ ((W k).length : Int) + 1 ≤ 281474976710656; rw [w1]; omega)
              | (show Value.int .i64 ((k : Int) + 1) = Value.int .i64 ((k + 1 : Nat) : Int); exact congrArg (Value.int .i64) (by omega))
              | trace_state
      case right.no.no.yes.right =>
        refine loop_at Nat 7 (fun j => [(6, .v (.int .i64 (T 2 j)))]) (fun j o => o.set 1 (.irow 5 .u8 (Q 2 k j))) (fun j => j ≤ 2) (fun j => 2 - j) 0 (Nat.zero_le _) ?_ ?_
        · cbv
          (repeat' (first | apply And.intro | apply BrB.mk | apply BrP.mk | intro _))
          (all_goals (subst hA; subst h_c; subst h_fl; subst h_fc; subst h_f16; subst h_f32; subst h_f64; subst h_fW); all_goals (have f_sl := SL.out; have f_hp := HP.out); all_goals (try simp only [std, stdBin, stdCmp, stdUna, stdIn, ci, beq_iff_eq, bne_iff_ne, beq_eq_false_iff_ne, bne_eq_false_iff_eq, decide_eq_true_eq, decide_eq_false_iff_not, Bool.not_true, Bool.not_false, Bool.not_eq_true', Bool.not_eq_false', Bool.not_not, tn0, tn1, tn2, tn3, Int.toNat_natCast] at *); all_goals (try omega))
          all_goals (have w1 : W k = wrK l k := HW.out k; have t1 : T 2 0 = 2 - 1 - ((0 : Nat) : Int) := HT.out 2 0; have q1 : Q 2 k 0 = wrK l k ++ [] := HQ.out 2 k 0)
          all_goals first
            | exact True.intro
            | (refine congrArg (Value.int .i64) ?_; omega)
            | (show W k = Q 2 k 0; rw [w1, q1, List.append_nil])
            | trace_state
        · intro j hj
          cbv
          refine BrB.mk (fun ga => ?_) (fun ga => ?_)
          · (repeat' (first | apply And.intro | apply BrB.mk | apply BrP.mk | intro _))
            all_goals try (refine ⟨j + 1, ?_, ?_, ?_⟩)
            all_goals try (show AS.le _ _; cbv; (repeat' (first | apply And.intro | apply BrB.mk | apply BrP.mk | intro _)))
            (all_goals (subst hA; subst h_c; subst h_fl; subst h_fc; subst h_f16; subst h_f32; subst h_f64; subst h_fW); all_goals (have f_sl := SL.out; have f_hp := HP.out); all_goals (try simp only [std, stdBin, stdCmp, stdUna, stdIn, ci, beq_iff_eq, bne_iff_ne, beq_eq_false_iff_ne, bne_eq_false_iff_eq, decide_eq_true_eq, decide_eq_false_iff_not, Bool.not_true, Bool.not_false, Bool.not_eq_true', Bool.not_eq_false', Bool.not_not, tn0, tn1, tn2, tn3, Int.toNat_natCast] at *); all_goals (try omega))
            all_goals (have t1 : T 2 j = 2 - 1 - (j : Int) := HT.out 2 j; have t2 : T 2 (j + 1) = 2 - 1 - ((j + 1 : Nat) : Int) := HT.out 2 (j + 1); have q1 := HQ.out 2 k j; have q2 := HQ.out 2 k (j + 1); have lk := wr_len f_hp k hk.2; have ql : (Q 2 k j).length = (wrK l k).length + j := (by rw [q1, List.length_append, putK_len]))
            all_goals first
              | exact True.intro
              | omega
              | (show (((Q 2 k j).length : Int) + 1) * 1 ≤ 140737488355328 ∧ ((Q 2 k j).length : Int) + 1 ≤ 281474976710656; rw [ql]; push_cast; omega)
              | (show Value.int .i64 (T 2 j - 1) = Value.int .i64 (T 2 (j + 1)); exact congrArg (Value.int .i64) (by omega))
              | (show _ = Q 2 k (j + 1); rw [q2, putK, ← List.append_assoc, ← q1, t1]; rfl)
              | trace_state
          · (repeat' (first | apply And.intro | apply BrB.mk | apply BrP.mk | intro _))
            all_goals try (refine ⟨k + 1, ?_, ?_, ?_⟩)
            all_goals try (show AS.le _ _; cbv; (repeat' (first | apply And.intro | apply BrB.mk | apply BrP.mk | intro _)))
            (all_goals (subst hA; subst h_c; subst h_fl; subst h_fc; subst h_f16; subst h_f32; subst h_f64; subst h_fW); all_goals (have f_sl := SL.out; have f_hp := HP.out); all_goals (try simp only [std, stdBin, stdCmp, stdUna, stdIn, ci, beq_iff_eq, bne_iff_ne, beq_eq_false_iff_ne, bne_eq_false_iff_eq, decide_eq_true_eq, decide_eq_false_iff_not, Bool.not_true, Bool.not_false, Bool.not_eq_true', Bool.not_eq_false', Bool.not_not, tn0, tn1, tn2, tn3, Int.toNat_natCast] at *); all_goals (try omega))
            all_goals (have t1 : T 2 j = 2 - 1 - (j : Int) := HT.out 2 j; have ej : j = 2 := (by omega); have q1 := HQ.out 2 k j; rw [ej] at q1; have lk := wr_len f_hp k hk.2; have w1 : W k = wrK l k := HW.out k; have w2 : W (k + 1) = wrK l k ++ encAt l k := HW.out (k + 1); have en := enc2 (n := ((l.at k).fld 1).z) (r := ((l.at k).fld 2).ints) (show ((l.at k).fld 0).z = 1 by assumption))
            all_goals first
              | exact True.intro
              | omega
              | (show Q 2 k j = W (k + 1); rw [ej, q1, w2, encAt, en.1, en.2])
              | (show _ = W (k + 1); rw [w2, w1, encAt, en.1]; first | rfl | exact congrArg _ (byte_one _))
              | (show (((W k).length : Int) + 2) * 1 ≤ 140737488355328 ∧ ((W k).length : Int) + 2 ≤ 281474976710656; rw [w1]; omega)
              | (show Value.int .i64 ((k : Int) + 1) = Value.int .i64 ((k + 1 : Nat) : Int); exact congrArg (Value.int .i64) (by omega))
              | trace_state
      case right.no.no.no.yes.right =>
        refine loop_at Nat 7 (fun j => [(6, .v (.int .i64 (T 4 j)))]) (fun j o => o.set 1 (.irow 5 .u8 (Q 4 k j))) (fun j => j ≤ 4) (fun j => 4 - j) 0 (Nat.zero_le _) ?_ ?_
        · cbv
          (repeat' (first | apply And.intro | apply BrB.mk | apply BrP.mk | intro _))
          (all_goals (subst hA; subst h_c; subst h_fl; subst h_fc; subst h_f16; subst h_f32; subst h_f64; subst h_fW); all_goals (have f_sl := SL.out; have f_hp := HP.out); all_goals (try simp only [std, stdBin, stdCmp, stdUna, stdIn, ci, beq_iff_eq, bne_iff_ne, beq_eq_false_iff_ne, bne_eq_false_iff_eq, decide_eq_true_eq, decide_eq_false_iff_not, Bool.not_true, Bool.not_false, Bool.not_eq_true', Bool.not_eq_false', Bool.not_not, tn0, tn1, tn2, tn3, Int.toNat_natCast] at *); all_goals (try omega))
          all_goals (have w1 : W k = wrK l k := HW.out k; have t1 : T 4 0 = 4 - 1 - ((0 : Nat) : Int) := HT.out 4 0; have q1 : Q 4 k 0 = wrK l k ++ [] := HQ.out 4 k 0)
          all_goals first
            | exact True.intro
            | (refine congrArg (Value.int .i64) ?_; omega)
            | (show W k = Q 4 k 0; rw [w1, q1, List.append_nil])
            | trace_state
        · intro j hj
          cbv
          refine BrB.mk (fun ga => ?_) (fun ga => ?_)
          · (repeat' (first | apply And.intro | apply BrB.mk | apply BrP.mk | intro _))
            all_goals try (refine ⟨j + 1, ?_, ?_, ?_⟩)
            all_goals try (show AS.le _ _; cbv; (repeat' (first | apply And.intro | apply BrB.mk | apply BrP.mk | intro _)))
            (all_goals (subst hA; subst h_c; subst h_fl; subst h_fc; subst h_f16; subst h_f32; subst h_f64; subst h_fW); all_goals (have f_sl := SL.out; have f_hp := HP.out); all_goals (try simp only [std, stdBin, stdCmp, stdUna, stdIn, ci, beq_iff_eq, bne_iff_ne, beq_eq_false_iff_ne, bne_eq_false_iff_eq, decide_eq_true_eq, decide_eq_false_iff_not, Bool.not_true, Bool.not_false, Bool.not_eq_true', Bool.not_eq_false', Bool.not_not, tn0, tn1, tn2, tn3, Int.toNat_natCast] at *); all_goals (try omega))
            all_goals (have t1 : T 4 j = 4 - 1 - (j : Int) := HT.out 4 j; have t2 : T 4 (j + 1) = 4 - 1 - ((j + 1 : Nat) : Int) := HT.out 4 (j + 1); have q1 := HQ.out 4 k j; have q2 := HQ.out 4 k (j + 1); have lk := wr_len f_hp k hk.2; have ql : (Q 4 k j).length = (wrK l k).length + j := (by rw [q1, List.length_append, putK_len]))
            all_goals first
              | exact True.intro
              | omega
              | (show (((Q 4 k j).length : Int) + 1) * 1 ≤ 140737488355328 ∧ ((Q 4 k j).length : Int) + 1 ≤ 281474976710656; rw [ql]; push_cast; omega)
              | (show Value.int .i64 (T 4 j - 1) = Value.int .i64 (T 4 (j + 1)); exact congrArg (Value.int .i64) (by omega))
              | (show _ = Q 4 k (j + 1); rw [q2, putK, ← List.append_assoc, ← q1, t1]; rfl)
              | trace_state
          · (repeat' (first | apply And.intro | apply BrB.mk | apply BrP.mk | intro _))
            all_goals try (refine ⟨k + 1, ?_, ?_, ?_⟩)
            all_goals try (show AS.le _ _; cbv; (repeat' (first | apply And.intro | apply BrB.mk | apply BrP.mk | intro _)))
            (all_goals (subst hA; subst h_c; subst h_fl; subst h_fc; subst h_f16; subst h_f32; subst h_f64; subst h_fW); all_goals (have f_sl := SL.out; have f_hp := HP.out); all_goals (try simp only [std, stdBin, stdCmp, stdUna, stdIn, ci, beq_iff_eq, bne_iff_ne, beq_eq_false_iff_ne, bne_eq_false_iff_eq, decide_eq_true_eq, decide_eq_false_iff_not, Bool.not_true, Bool.not_false, Bool.not_eq_true', Bool.not_eq_false', Bool.not_not, tn0, tn1, tn2, tn3, Int.toNat_natCast] at *); all_goals (try omega))
            all_goals (have t1 : T 4 j = 4 - 1 - (j : Int) := HT.out 4 j; have ej : j = 4 := (by omega); have q1 := HQ.out 4 k j; rw [ej] at q1; have lk := wr_len f_hp k hk.2; have w1 : W k = wrK l k := HW.out k; have w2 : W (k + 1) = wrK l k ++ encAt l k := HW.out (k + 1); have en := enc4 (n := ((l.at k).fld 1).z) (r := ((l.at k).fld 2).ints) (show ((l.at k).fld 0).z = 2 by assumption))
            all_goals first
              | exact True.intro
              | omega
              | (show Q 4 k j = W (k + 1); rw [ej, q1, w2, encAt, en.1, en.2])
              | (show _ = W (k + 1); rw [w2, w1, encAt, en.1]; first | rfl | exact congrArg _ (byte_one _))
              | (show (((W k).length : Int) + 4) * 1 ≤ 140737488355328 ∧ ((W k).length : Int) + 4 ≤ 281474976710656; rw [w1]; omega)
              | (show Value.int .i64 ((k : Int) + 1) = Value.int .i64 ((k + 1 : Nat) : Int); exact congrArg (Value.int .i64) (by omega))
              | trace_state
      case right.no.no.no.no.yes.right =>
        refine loop_at Nat 7 (fun j => [(6, .v (.int .i64 (T 8 j)))]) (fun j o => o.set 1 (.irow 5 .u8 (Q 8 k j))) (fun j => j ≤ 8) (fun j => 8 - j) 0 (Nat.zero_le _) ?_ ?_
        · cbv
          (repeat' (first | apply And.intro | apply BrB.mk | apply BrP.mk | intro _))
          (all_goals (subst hA; subst h_c; subst h_fl; subst h_fc; subst h_f16; subst h_f32; subst h_f64; subst h_fW); all_goals (have f_sl := SL.out; have f_hp := HP.out); all_goals (try simp only [std, stdBin, stdCmp, stdUna, stdIn, ci, beq_iff_eq, bne_iff_ne, beq_eq_false_iff_ne, bne_eq_false_iff_eq, decide_eq_true_eq, decide_eq_false_iff_not, Bool.not_true, Bool.not_false, Bool.not_eq_true', Bool.not_eq_false', Bool.not_not, tn0, tn1, tn2, tn3, Int.toNat_natCast] at *); all_goals (try omega))
          all_goals (have w1 : W k = wrK l k := HW.out k; have t1 : T 8 0 = 8 - 1 - ((0 : Nat) : Int) := HT.out 8 0; have q1 : Q 8 k 0 = wrK l k ++ [] := HQ.out 8 k 0)
          all_goals first
            | exact True.intro
            | (refine congrArg (Value.int .i64) ?_; omega)
            | (show W k = Q 8 k 0; rw [w1, q1, List.append_nil])
            | trace_state
        · intro j hj
          cbv
          refine BrB.mk (fun ga => ?_) (fun ga => ?_)
          · (repeat' (first | apply And.intro | apply BrB.mk | apply BrP.mk | intro _))
            all_goals try (refine ⟨j + 1, ?_, ?_, ?_⟩)
            all_goals try (show AS.le _ _; cbv; (repeat' (first | apply And.intro | apply BrB.mk | apply BrP.mk | intro _)))
            (all_goals (subst hA; subst h_c; subst h_fl; subst h_fc; subst h_f16; subst h_f32; subst h_f64; subst h_fW); all_goals (have f_sl := SL.out; have f_hp := HP.out); all_goals (try simp only [std, stdBin, stdCmp, stdUna, stdIn, ci, beq_iff_eq, bne_iff_ne, beq_eq_false_iff_ne, bne_eq_false_iff_eq, decide_eq_true_eq, decide_eq_false_iff_not, Bool.not_true, Bool.not_false, Bool.not_eq_true', Bool.not_eq_false', Bool.not_not, tn0, tn1, tn2, tn3, Int.toNat_natCast] at *); all_goals (try omega))
            all_goals (have t1 : T 8 j = 8 - 1 - (j : Int) := HT.out 8 j; have t2 : T 8 (j + 1) = 8 - 1 - ((j + 1 : Nat) : Int) := HT.out 8 (j + 1); have q1 := HQ.out 8 k j; have q2 := HQ.out 8 k (j + 1); have lk := wr_len f_hp k hk.2; have ql : (Q 8 k j).length = (wrK l k).length + j := (by rw [q1, List.length_append, putK_len]))
            all_goals first
              | exact True.intro
              | omega
              | (show (((Q 8 k j).length : Int) + 1) * 1 ≤ 140737488355328 ∧ ((Q 8 k j).length : Int) + 1 ≤ 281474976710656; rw [ql]; push_cast; omega)
              | (show Value.int .i64 (T 8 j - 1) = Value.int .i64 (T 8 (j + 1)); exact congrArg (Value.int .i64) (by omega))
              | (show _ = Q 8 k (j + 1); rw [q2, putK, ← List.append_assoc, ← q1, t1]; rfl)
              | trace_state
          · (repeat' (first | apply And.intro | apply BrB.mk | apply BrP.mk | intro _))
            all_goals try (refine ⟨k + 1, ?_, ?_, ?_⟩)
            all_goals try (show AS.le _ _; cbv; (repeat' (first | apply And.intro | apply BrB.mk | apply BrP.mk | intro _)))
            (all_goals (subst hA; subst h_c; subst h_fl; subst h_fc; subst h_f16; subst h_f32; subst h_f64; subst h_fW); all_goals (have f_sl := SL.out; have f_hp := HP.out); all_goals (try simp only [std, stdBin, stdCmp, stdUna, stdIn, ci, beq_iff_eq, bne_iff_ne, beq_eq_false_iff_ne, bne_eq_false_iff_eq, decide_eq_true_eq, decide_eq_false_iff_not, Bool.not_true, Bool.not_false, Bool.not_eq_true', Bool.not_eq_false', Bool.not_not, tn0, tn1, tn2, tn3, Int.toNat_natCast] at *); all_goals (try omega))
            all_goals (have t1 : T 8 j = 8 - 1 - (j : Int) := HT.out 8 j; have ej : j = 8 := (by omega); have q1 := HQ.out 8 k j; rw [ej] at q1; have lk := wr_len f_hp k hk.2; have w1 : W k = wrK l k := HW.out k; have w2 : W (k + 1) = wrK l k ++ encAt l k := HW.out (k + 1); have en := enc8 (n := ((l.at k).fld 1).z) (r := ((l.at k).fld 2).ints) (show ((l.at k).fld 0).z = 3 by assumption))
            all_goals first
              | exact True.intro
              | omega
              | (show Q 8 k j = W (k + 1); rw [ej, q1, w2, encAt, en.1, en.2])
              | (show _ = W (k + 1); rw [w2, w1, encAt, en.1]; first | rfl | exact congrArg _ (byte_one _))
              | (show (((W k).length : Int) + 8) * 1 ≤ 140737488355328 ∧ ((W k).length : Int) + 8 ≤ 281474976710656; rw [w1]; omega)
              | (show Value.int .i64 ((k : Int) + 1) = Value.int .i64 ((k + 1 : Nat) : Int); exact congrArg (Value.int .i64) (by omega))
              | trace_state
      all_goals try (refine ⟨k + 1, ?_, ?_, ?_⟩)
      all_goals try (show AS.le _ _; cbv; (repeat' (first | apply And.intro | apply BrB.mk | apply BrP.mk | intro _)))
      (all_goals (subst hA; subst h_c; subst h_fl; subst h_fc; subst h_f16; subst h_f32; subst h_f64; subst h_fW); all_goals (have f_sl := SL.out; have f_hp := HP.out); all_goals (try simp only [std, stdBin, stdCmp, stdUna, stdIn, ci, beq_iff_eq, bne_iff_ne, beq_eq_false_iff_ne, bne_eq_false_iff_eq, decide_eq_true_eq, decide_eq_false_iff_not, Bool.not_true, Bool.not_false, Bool.not_eq_true', Bool.not_eq_false', Bool.not_not, tn0, tn1, tn2, tn3, Int.toNat_natCast] at *); all_goals (try omega))
      all_goals (have w1 : W k = wrK l k := HW.out k; have w2 : W (k + 1) = wrK l k ++ encAt l k := HW.out (k + 1); have lk := wr_len f_hp k hk.2; have rk := f_hp k (by omega))
      all_goals first
        | exact True.intro
        | omega
        | (have e : sixty l.ls.length = k := (by unfold sixty; omega); show W k = wrK l (sixty l.ls.length); rw [e]; exact w1)
        | (show ((W k).length : Int) * 1 ≤ _; rw [w1]; omega)
        | (show _ = W (k + 1); rw [w2, w1]; refine congrArg _ ?_; rw [encAt, encR (by assumption) (by assumption) (by assumption) (by assumption)])
        | (rw [w1]; omega)
        | (show Value.int .i64 ((k : Int) + 1) = Value.int .i64 ((k + 1 : Nat) : Int); exact congrArg (Value.int .i64) (by omega))
        | trace_state
    case nx =>
      (repeat' (first | apply And.intro | apply BrB.mk | apply BrP.mk | intro _))
      (all_goals (subst hA; subst h_c; subst h_fl; subst h_fc; subst h_f16; subst h_f32; subst h_f64; subst h_fW); all_goals (have f_sl := SL.out; have f_hp := HP.out); all_goals (try simp only [std, stdBin, stdCmp, stdUna, stdIn, ci, beq_iff_eq, bne_iff_ne, beq_eq_false_iff_ne, bne_eq_false_iff_eq, decide_eq_true_eq, decide_eq_false_iff_not, Bool.not_true, Bool.not_false, Bool.not_eq_true', Bool.not_eq_false', Bool.not_not, tn0, tn1, tn2, tn3] at *); all_goals (try omega))
      all_goals (have w1 : W k = wrK l k := HW.out k; have lk := wr_len f_hp k hk.2)
      all_goals first
        | exact True.intro
        | (have e : sixty l.ls.length = k := (by unfold sixty; omega); show W k = wrK l (sixty l.ls.length); rw [e]; exact w1)
        | (show ((W k).length : Int) * 1 ≤ _; rw [w1]; omega)
        | trace_state
  (all_goals (subst hA; subst h_c; subst h_fl; subst h_fc; subst h_f16; subst h_f32; subst h_f64; subst h_fW); all_goals (have f_sl := SL.out; have f_hp := HP.out); all_goals (try simp only [std, stdBin, stdCmp, stdUna, stdIn, ci, beq_iff_eq, bne_iff_ne, beq_eq_false_iff_ne, bne_eq_false_iff_eq, decide_eq_true_eq, decide_eq_false_iff_not, Bool.not_true, Bool.not_false, Bool.not_eq_true', Bool.not_eq_false', Bool.not_not, tn0, tn1, tn2, tn3] at *); all_goals (try omega))
end Go.Proofs.Ythklcldmoakbfaa
