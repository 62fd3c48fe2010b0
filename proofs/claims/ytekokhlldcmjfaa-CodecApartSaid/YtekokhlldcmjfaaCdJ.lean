/- Layer 24: two states have the same bytes just if they are the same: the law. -/
import Derived.Test.YtekokhlldcmjfaaCdI
namespace Go.Proofs.Ytekokhlldcmjfaa
open Go.RowKit
set_option maxRecDepth 1000000
set_option linter.unusedSimpArgs false
set_option linter.unusedVariables false
set_option maxHeartbeats 16000000
set_option cbv.maxSteps 10000000
theorem sen_may {k : Int} {x : Dat} (h : senE k x = 0) : mayStB k x = true := by
  unfold senE at h
  by_cases hb : mayStB k x = true
  · exact hb
  · rw [if_neg hb] at h; omega
theorem sen_b {s k : Int} {x : Dat} (h : senE k x = 0) : senB0 [AV.st [AV.z s, AV.z k, AV.d x]] = stB s k x := by
  unfold senB0
  rw [if_pos (show senEF [AV.st [AV.z s, AV.z k, AV.d x]] = 0 from h)]
  rfl
def AB (l : List Int) : Prop := ∀ v ∈ l, 0 ≤ v ∧ v ≤ 255
theorem ab_app {a b : List Int} (ha : AB a) (hb : AB b) : AB (a ++ b) := fun v hv => by
  rcases List.mem_append.1 hv with h | h
  · exact ha v h
  · exact hb v h
theorem ab_nil : AB [] := fun v hv => by cases hv
theorem ab_put (n w : Int) : ∀ k, AB (putK n w k)
  | 0 => ab_nil
  | k + 1 => ab_app (ab_put n w k) (fun v hv => by
      rw [List.mem_singleton] at hv
      subst hv
      unfold byteAt
      rw [wrap_u8]
      omega)
theorem ab_dat (D : List Int) : ∀ j, AB (bDat D j)
  | 0 => ab_nil
  | j + 1 => ab_app (ab_dat D j) (ab_put _ _ _)
theorem ab_dim (D : List Int) : ∀ j, AB (bDim D j)
  | 0 => ab_nil
  | j + 1 => ab_app (ab_dim D j) (ab_put _ _ _)
theorem ab_mov (D : List Int) : ∀ j, AB (bMov D j)
  | 0 => ab_nil
  | j + 1 => ab_app (ab_mov D j) (ab_put _ _ _)
theorem ab_tn (D : List Int) (E : Int) (L : List Int) : AB (tnB D E L) := ab_app (ab_app (ab_dim _ _) (ab_put _ _ _)) (ab_dat _ _)
theorem ab_lay (D : List Int) (E : Int) (L M F : List Int) (G : Int) (H : List Int) : AB (layP D E L M F G H) := by
  unfold layP
  refine ab_app (ab_put _ _ _) ?_
  split
  · exact ab_nil
  · exact ab_app (ab_app (ab_tn _ _ _) (ab_mov _ _)) (ab_tn _ _ _)
theorem ab_ps (x : Dat) : ∀ j, AB (stPs x j)
  | 0 => ab_nil
  | j + 1 => ab_app (ab_ps x j) (ab_lay _ _ _ _ _ _ _)
theorem ab_st (s k : Int) (x : Dat) : AB (stB s k x) := by
  refine ab_app (ab_app (ab_app (ab_app ?_ (ab_put _ _ _)) (ab_put _ _ _)) (ab_put _ _ _)) (ab_ps _ _)
  intro v hv
  simp [stMark] at hv
  omega
theorem str_ab {l m : List Int} (hl : AB l) (hm : AB m) (h : (strOfNums l).toList = (strOfNums m).toList) : l = m := by
  rw [ByteArray.toList_eq, ByteArray.toList_eq] at h
  have h1 := h
  simp only [strOfNums_data] at h1
  have hlen : l.length = m.length := by
    have := congrArg List.length h1
    simpa using this
  refine List.ext_getElem hlen fun i h2 h3 => ?_
  have h4 : UInt8.ofNat (l[i]).toNat = UInt8.ofNat (m[i]).toNat := by
    have := congrArg (fun q => q[i]?) h1
    simpa [List.getElem?_eq_getElem h2, List.getElem?_eq_getElem h3] using this
  have a1 := hl _ (List.getElem_mem h2)
  have a2 := hm _ (List.getElem_mem h3)
  have h5 := congrArg UInt8.toNat h4
  simp only [UInt8.toNat_ofNat'] at h5
  omega
theorem stB_of {s k : Int} {x y : Dat} (h : sprF [.d x, .d y] = true) : stB s k x = stB s k y := by
  have h : (decide (x.ls.length = y.ls.length) && allTo (fun i => samePD (x.at i) (y.at i)) x.ls.length) = true := h
  rw [Bool.and_eq_true, decide_eq_true_eq] at h
  obtain ⟨hl, ha⟩ := h
  have key : ∀ n : Nat, n ≤ x.ls.length → stPs x n = stPs y n := by
    intro n
    induction n with
    | zero => intro _; rfl
    | succ n ih =>
      intro hn
      have h1 := allTo_at ha n (by omega)
      unfold samePD sameTn tnOf at h1
      simp only [Bool.and_eq_true, decide_eq_true_eq, beq_iff_eq] at h1
      obtain ⟨⟨⟨a1, a2, a3⟩, b1, b2, b3⟩, c1⟩ := h1
      rw [stPs, stPs, ih (by omega)]
      unfold layD
      rw [a1, a2, a3, b1, b2, b3, c1]
  unfold stB
  rw [← hl, key _ (Nat.le_refl _)]
theorem stB_seq {s k t j : Int} {x y : Dat} (hx : Wt (.sl prmTy) x) (hy : Wt (.sl prmTy) y) (hs : 0 ≤ s ∧ s ≤ 18446744073709551615) (ht : 0 ≤ t ∧ t ≤ 18446744073709551615) (e1 : senE k x = 0) (e2 : senE j y = 0) :
    ((strOfNums (senB0 [AV.st [AV.z s, AV.z k, AV.d x]])).toList == (strOfNums (senB0 [AV.st [AV.z t, AV.z j, AV.d y]])).toList) = (decide (s = t ∧ k = j) && sprF [.d x, .d y]) := by
  rw [sen_b e1, sen_b e2, Bool.eq_iff_iff, beq_iff_eq, Bool.and_eq_true, decide_eq_true_eq]
  constructor
  · intro h
    obtain ⟨q1, q2, q3⟩ := stB_inj hx hy hs ht (sen_may e1) (sen_may e2) (str_ab (ab_st _ _ _) (ab_st _ _ _) h)
    exact ⟨⟨q1, q2⟩, q3⟩
  · rintro ⟨⟨rfl, rfl⟩, h⟩
    rw [stB_of h]
theorem apart24_ok : CtrOk Try.prog 12 (boolC [sttTy, sttTy] yes) := by
  obtain ⟨G, hG⟩ : ∃ G : List (FuncId × Ctr), G = [(31, boolC [sttTy] light24F), (32, boolC [] yes), (18, boolC [.sl prmTy, .sl prmTy] sprF)] := ⟨_, rfl⟩
  refine fn_inl3 (ck := true) rfl [(33, senC0 senEF senB0)] ⟨⟨by unfold FnOk; kernel_rfl, sen0_ok⟩, trivial⟩ [] trivial Try.func12 rfl tt_ok (G := G) (by rw [hG]; exact ⟨⟨light24_ok, by unfold FnOk; kernel_rfl⟩, ⟨awake24_ok, by unfold FnOk; kernel_rfl⟩, ⟨rspr_ok, by unfold FnOk; kernel_rfl⟩, trivial⟩) mixed (by kernel_rfl) ?_
  intro xa xs h hx hp
  obtain ⟨a0, as0, x0, xs0, rfl, rfl, h0, H1⟩ := svArgs_cons h
  obtain ⟨a1, as1, x1, xs1, rfl, rfl, h1, H2⟩ := svArgs_cons H1
  obtain ⟨rfl, rfl⟩ := svArgs_nil H2
  obtain ⟨ps, pk, px, rfl, rfl⟩ := argSV_stt h0
  obtain ⟨qs, qk, qx, rfl, rfl⟩ := argSV_stt h1
  have sp : ((Lit.int .u64 ps).wf = true) ∧ (-9223372036854775808 ≤ pk ∧ pk ≤ 9223372036854775807) ∧ ((ci px.ls.length ≤ 9223372036854775807) ∧ Wt (.sl prmTy) px) := svf_stt (hx (.agg [.v (.int .u64 ps), .v (.int .i64 pk), .imm prmTy px]) (List.mem_of_getElem? (i := 0) rfl))
  have sq : ((Lit.int .u64 qs).wf = true) ∧ (-9223372036854775808 ≤ qk ∧ qk ≤ 9223372036854775807) ∧ ((ci qx.ls.length ≤ 9223372036854775807) ∧ Wt (.sl prmTy) qx) := svf_stt (hx (.agg [.v (.int .u64 qs), .v (.int .i64 qk), .imm prmTy qx]) (List.mem_of_getElem? (i := 1) rfl))
  have SP := Lib.hid sp
  clear sp
  have SQ := Lib.hid sq
  clear sq
  clear hx hp h h0 H1 h1 H2
  generalize hA : std = A
  subst hG
  generalize h_c : ci = c
  generalize h_fl : light24F = fl
  generalize h_fs : sprF = fs
  generalize h_uE : senEF = uE
  generalize h_uB : senB0 = uB
  generalize h_fY : yes = fY
  cbv
  (repeat' (first | apply And.intro | apply BrB.mk | apply BrP.mk | intro _))
  all_goals (subst hA; subst h_c; subst h_fl; subst h_fs; subst h_uE; subst h_uB; subst h_fY)
  all_goals (have f_sp := SP.out; have f_sq := SQ.out)
  all_goals (try simp only [std, stdBin, stdCmp, stdUna, stdIn, ci, beq_iff_eq, bne_iff_ne, beq_eq_false_iff_ne, bne_eq_false_iff_eq, decide_eq_true_eq, decide_eq_false_iff_not, Bool.not_true, Bool.not_false, Bool.not_eq_true', Bool.not_eq_false', Bool.not_not, tn0, tn1, tn2, tn3, light24F, yes, senEF] at *)
  all_goals first | exact True.intro | with_reducible rfl | skip
  all_goals (have hs := stB_seq (s := ps) (t := qs) f_sp.2.2.2 f_sq.2.2.2 ((stdIn_iff .u64 ps).2 f_sp.1 : 0 ≤ ps ∧ ps ≤ 18446744073709551615) ((stdIn_iff .u64 qs).2 f_sq.1 : 0 ≤ qs ∧ qs ≤ 18446744073709551615) (by assumption : senE pk px = 0) (by assumption : senE qk qx = 0); clear f_sp f_sq)
  all_goals (generalize hb : (((strOfNums (senB0 [AV.st [AV.z ps, AV.z pk, AV.d px]])).toList == (strOfNums (senB0 [AV.st [AV.z qs, AV.z qk, AV.d qx]])).toList) : Bool) = bb at *)
  all_goals (subst hs)
  all_goals first
    | (exfalso; simp_all; done)
    | (simp_all; done)
    | trace_state
end Go.Proofs.Ytekokhlldcmjfaa
