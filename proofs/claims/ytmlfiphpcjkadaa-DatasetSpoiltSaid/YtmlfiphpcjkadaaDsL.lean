/- Layer 22: with one that may not be it may not be. -/
import Derived.Test.YtmlfiphpcjkadaaDsJ
namespace Go.Proofs.Ytmlfiphpcjkadaa
open Go.RowKit
set_option maxRecDepth 1000000
set_option linter.unusedSimpArgs false
set_option linter.unusedVariables false
set_option maxHeartbeats 16000000
set_option cbv.maxSteps 10000000
theorem bad_set {c h w e k : Int} {x : Dat} {N : Nat} {u : Dat} (hm : mayDs c h w e k x = true) (hN : N < x.ls.length) (hu : exB c h w k ((u.fld 0).ints) ((u.fld 1).z) = false) :
    mayDs c h w e k (.list (x.ls.set N u)) = false ∧ sameDs c h w e k x c h w e k (.list (x.ls.set N u)) = false := by
  have hl : (Dat.list (x.ls.set N u)).ls.length = x.ls.length := by simp [Dat.ls]
  have hat : (Dat.list (x.ls.set N u)).at N = u := by
    show (x.ls.set N u).getD N (.int 0) = u
    rw [List.getD_eq_getElem?_getD, List.getElem?_set, if_pos rfl, if_pos hN]
    rfl
  have hx : exB c h w k (((x.at N).fld 0).ints) (((x.at N).fld 1).z) = true := by
    unfold mayDs at hm
    rw [Bool.and_eq_true] at hm
    exact allTo_at hm.2 N hN
  refine ⟨?_, ?_⟩
  · unfold mayDs
    rw [hl, allTo_false (x := N) hN (by rw [hat]; exact hu), Bool.and_false]
  · unfold sameDs
    rw [allTo_false (x := N) hN, Bool.and_false]
    rw [hat]
    cases hs : sameEx (x.at N) u with
    | false => rfl
    | true =>
      exfalso
      unfold sameEx at hs
      simp only [Bool.and_eq_true, decide_eq_true_eq, beq_iff_eq] at hs
      rw [hs.1, hs.2, hu] at hx
      cases hx
theorem ex_no {c h w k : Int} {D : List Int} {L : Int} (hu : ¬ ((D.length : Int) = c * h * w ∧ D.contains (-128) = false ∧ 0 ≤ L ∧ L ≤ k - 1)) (E : List Int) (z : Int) (h1 : E = D) (h2 : z = L) : exB c h w k ((((Dat.agg [Dat.list (List.map Dat.int E), Dat.int z]) : Dat).fld 0).ints) ((((Dat.agg [Dat.list (List.map Dat.int E), Dat.int z]) : Dat).fld 1).z) = false := by
  subst h1
  subst h2
  have e1 : (((Dat.agg [Dat.list (List.map Dat.int E), Dat.int z]) : Dat).fld 0).ints = E := ints_map22 E
  have e2 : (((Dat.agg [Dat.list (List.map Dat.int E), Dat.int z]) : Dat).fld 1).z = z := rfl
  rw [e1, e2]
  exact decide_eq_false hu
theorem spoilt22_ok : CtrOk Try.prog 6 (boolC [dsTy, .int .i64, .int .i64] yes) := by
  obtain ⟨G, hG⟩ : ∃ G : List (FuncId × Ctr), G = [(12, boolC [dsTy] lightF), (13, boolC [] yes), (16, boolC [dsTy] mayDsF), (18, boolC [dsTy, dsTy] sameDsF)] := ⟨_, rfl⟩
  refine fn_inl3 (ck := true) rfl [(14, encC0 encEF encB0)] ⟨⟨by unfold FnOk; kernel_rfl, enc0_ok⟩, trivial⟩ [] trivial Try.func6 rfl tt_ok (G := G) (by rw [hG]; exact ⟨⟨light22_ok, by unfold FnOk; kernel_rfl⟩, ⟨awake22_ok, by unfold FnOk; kernel_rfl⟩, ⟨mayDs_ok, by unfold FnOk; kernel_rfl⟩, ⟨sameDs_ok, by unfold FnOk; kernel_rfl⟩, trivial⟩) mixed (by kernel_rfl) ?_
  intro xa xs h hx hp
  obtain ⟨a0, as0, x0, xs0, rfl, rfl, h0, H1⟩ := svArgs_cons h
  obtain ⟨a1, as1, x1, xs1, rfl, rfl, h1, H2⟩ := svArgs_cons H1
  obtain ⟨a2, as2, x2, xs2, rfl, rfl, h2, H3⟩ := svArgs_cons H2
  obtain ⟨rfl, rfl⟩ := svArgs_nil H3
  obtain ⟨dc, dh, dw, de, dk, dx, rfl, rfl⟩ := argSV_ds h0
  obtain ⟨i, rfl, rfl⟩ := argSV_int h1
  obtain ⟨y, rfl, rfl⟩ := argSV_int h2
  have sd : (-9223372036854775808 ≤ dc ∧ dc ≤ 9223372036854775807) ∧ (-9223372036854775808 ≤ dh ∧ dh ≤ 9223372036854775807) ∧ (-9223372036854775808 ≤ dw ∧ dw ≤ 9223372036854775807) ∧ (-9223372036854775808 ≤ de ∧ de ≤ 9223372036854775807) ∧ (-9223372036854775808 ≤ dk ∧ dk ≤ 9223372036854775807) ∧ ((ci dx.ls.length ≤ 9223372036854775807) ∧ Wt (.sl exTy) dx) := svf_ds (hx (.agg [.v (.int .i64 dc), .v (.int .i64 dh), .v (.int .i64 dw), .v (.int .i64 de), .v (.int .i64 dk), .imm exTy dx]) (List.mem_of_getElem? (i := 0) rfl))
  have si := of_i64 (hx (.v (.int .i64 i)) (by simp))
  have sy := of_i64 (hx (.v (.int .i64 y)) (by simp))
  have SD := Lib.hid sd
  clear sd
  have SI := Lib.hid si
  clear si
  have SY := Lib.hid sy
  clear sy
  clear hx hp h h0 H1 h1 H2 h2 H3
  generalize hA : std = A
  subst hG
  generalize h_c : ci = c
  generalize h_fl : lightF = fl
  generalize h_fm : mayDsF = fm
  generalize h_fsd : sameDsF = fsd
  generalize h_uE : encEF = uE
  generalize h_uB : encB0 = uB
  generalize h_fY : yes = fY
  cbv
  (repeat' (first | apply And.intro | apply BrB.mk | apply BrP.mk | intro _))
  (all_goals (subst hA; subst h_c; subst h_fl; subst h_fm; subst h_fsd; subst h_uE; subst h_uB; subst h_fY); all_goals (have f_sd := SD.out; have f_si := SI.out; have f_sy := SY.out); all_goals (try simp only [std, stdBin, stdCmp, stdUna, stdIn, ci, beq_iff_eq, bne_iff_ne, beq_eq_false_iff_ne, bne_eq_false_iff_eq, decide_eq_true_eq, decide_eq_false_iff_not, Bool.not_true, Bool.not_false, Bool.not_eq_true', Bool.not_eq_false', Bool.not_not, tn0, tn1, tn2, tn3, lightF, mayDsF, sameDsF, encEF, encBF, encE, yes] at *); all_goals (try omega))
  all_goals first
    | exact True.intro
    | with_reducible rfl
    | skip
  all_goals (have hm : mayDs dc dh dw de dk dx = true := (by assumption); obtain ⟨n1, n2, n3, n4, n5⟩ := ds_nums hm; have hw1 : IntKind.u64.wrap (dx.ls.length : Int) = (dx.ls.length : Int) := (by rw [wrap_u64]; omega); obtain ⟨N, hN1, hN2⟩ := modZ i (dx.ls.length : Int) dx.ls.length (by omega) (by omega) rfl; have hN1 : IntKind.i64.wrap ((IntKind.u64.wrap i).tmod (dx.ls.length : Int)) = ((N : Nat) : Int) := hN1; have e1 : (Dat.list ((Dat.list []).ls ++ dx.ls)).ls = dx.ls := rfl; have e2 : ∀ q, (Dat.list ((Dat.list []).ls ++ dx.ls)).at q = dx.at q := fun _ => rfl; have e3 : (Dat.list []).ls.length = 0 := rfl; have e4 : ((Dat.list []).ls ++ dx.ls) = dx.ls := rfl)
  all_goals (have hxN := (show exB dc dh dw dk (((dx.at N).fld 0).ints) (((dx.at N).fld 1).z) = true from (by have q := hm; unfold mayDs at q; rw [Bool.and_eq_true] at q; exact allTo_at q.2 N hN2)); simp only [exB, decide_eq_true_eq] at hxN; obtain ⟨x1, x2, x3, x4⟩ := hxN)
  all_goals (have hss := same_self22 dc dh dw de dk dx)
  all_goals (simp only [hw1, hN1, e1, e2, Int.toNat_natCast, List.nil_append] at *)
  all_goals (have b0 := bad_set hm hN2 (ex_no (c := dc) (h := dh) (w := dw) (k := dk) (D := ((dx.at N).fld 0).ints) (L := dk) (by rintro ⟨_, _, _, q⟩; omega) _ _ rfl rfl); have b1 := bad_set hm hN2 (ex_no (c := dc) (h := dh) (w := dw) (k := dk) (D := ((dx.at N).fld 0).ints ++ [0]) (L := ((dx.at N).fld 1).z) (by rintro ⟨q, _⟩; rw [List.length_append] at q; simp at q; omega) _ _ rfl rfl); have b3 := bad_set hm hN2 (ex_no (c := dc) (h := dh) (w := dw) (k := dk) (D := ((dx.at N).fld 0).ints) (L := -1) (by rintro ⟨_, _, q, _⟩; omega) _ _ rfl rfl); have b2 : ∀ R : List Int, _ := fun R => bad_set hm hN2 (ex_no (c := dc) (h := dh) (w := dw) (k := dk) (D := [-128] ++ R) (L := ((dx.at N).fld 1).z) (by rintro ⟨_, q, _⟩; simp at q) _ _ rfl rfl))
  all_goals first
    | exact True.intro
    | omega
    | (exfalso; simp only [b0.1, b0.2, hss] at *; simp_all; done)
    | (exfalso; simp only [b1.1, b1.2, hss] at *; simp_all; done)
    | (exfalso; simp only [b3.1, b3.2, hss] at *; simp_all; done)
    | (exfalso; simp only [(b2 _).1, (b2 _).2, hss] at *; simp_all; done)
    | (simp only [List.length_append, List.length_take, List.length_drop, List.length_nil, List.length_singleton]; omega)
    | (simp only [List.length_append, List.length_take, List.length_drop, List.length_nil, List.length_singleton, x1] at *; omega)
    | trace_state
end Go.Proofs.Ytmlfiphpcjkadaa
