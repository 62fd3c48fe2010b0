/- Layer 21: chance, rounding, sums made small, as contracts. -/
import Derived.Test.YtekokhlldcmjfaaMayAll
import Derived.Test.YtekokhlldcmjfaaSmallB
import Derived.Test.YtekokhlldcmjfaaResU
namespace Go.Proofs.Ytekokhlldcmjfaa
open Go.RowKit
set_option maxRecDepth 1000000
set_option linter.unusedSimpArgs false
set_option linter.unusedVariables false
set_option maxHeartbeats 16000000
set_option cbv.maxSteps 10000000
def bv (z : Int) : BitVec 64 := BitVec.ofInt 64 z
theorem u64_bv {z : Int} (h : (Lit.int .u64 z).wf = true) : u64 (bv z) = .int .u64 z := by
  have := (stdIn_iff .u64 z).2 h
  simp only [stdIn] at this
  rw [u64, bv, N_of z this.1 this.2]
theorem rdiv_bd {v p q B : Int} (hp : 1 ≤ p) (h0 : 0 ≤ q) (h1 : q < p) (hv : -B ≤ v ∧ v ≤ B) : -B ≤ (v + q) / p ∧ (v + q) / p ≤ B := by
  constructor
  · refine Int.le_ediv_of_mul_le (by omega) ?_
    by_cases hB : 0 ≤ B
    · have := Int.mul_le_mul_of_nonneg_left hp hB
      have e : -B * p = -(B * p) := Int.neg_mul _ _
      omega
    · omega
  · have hB : 0 ≤ B := by omega
    refine Int.le_of_lt_add_one (Int.ediv_lt_of_lt_mul (by omega) ?_)
    have := Int.mul_le_mul_of_nonneg_left hp hB
    have e : (B + 1) * p = B * p + p := by rw [Int.add_mul, Int.one_mul]
    omega
theorem pow_pos1 (n : Nat) : (1 : Int) ≤ 2 ^ n := by
  have : (0 : Int) < 2 ^ n := Int.pow_pos (by decide)
  omega
theorem numb_bd {v B : Int} (hB : 0 ≤ B) (hv : -B ≤ v ∧ v ≤ B) : -B ≤ numb v ∧ numb v ≤ B := by unfold numb cl; omega
theorem N_nn (r : BitVec 64) : 0 ≤ N r ∧ N r ≤ 18446744073709551615 := by unfold N; omega
theorem chance_bd {v s B : Int} (r : BitVec 64) (hB : 0 ≤ B) (hv : -B ≤ v ∧ v ≤ B) : -B ≤ chanceI v s r ∧ chanceI v s r ≤ B := by
  unfold chanceI
  have hp := pow_pos1 (shN s)
  exact rdiv_bd hp (Int.emod_nonneg _ (by omega)) (Int.emod_lt_of_pos _ (by omega)) (numb_bd hB hv)
theorem near_bd {v s B : Int} (hB : 0 ≤ B) (hv : -B ≤ v ∧ v ≤ B) : -B ≤ nearI v s ∧ nearI v s ≤ B := by
  unfold nearI
  split
  · exact numb_bd hB hv
  · rename_i h
    have e : (2 : Int) ^ shN s = 2 ^ (shN s - 1) * 2 := by
      obtain ⟨q, hq⟩ : ∃ q, shN s = q + 1 := ⟨shN s - 1, by omega⟩
      rw [hq, Nat.add_sub_cancel, Int.pow_succ]
    have hp := pow_pos1 (shN s - 1)
    exact rdiv_bd (by omega) (by omega) (by omega) (numb_bd hB hv)
theorem down_bd {v s B : Int} (hB : 0 ≤ B) (hv : -B ≤ v ∧ v ≤ B) : -B ≤ downI v s ∧ downI v s ≤ B := by
  unfold downI
  have hp := pow_pos1 (shN s)
  have := rdiv_bd hp (Int.le_refl 0) (by omega) (numb_bd hB hv)
  rwa [Int.add_zero] at this
theorem numb_big (v : Int) : numb (numb v) = numb v := by unfold numb cl; omega
theorem chance_all (v s : Int) (r : BitVec 64) : -4611686018427387904 ≤ chanceI v s r ∧ chanceI v s r ≤ 4611686018427387904 := by
  have := chance_bd (v := numb v) (s := s) r (by decide) (numb_in v)
  unfold chanceI at *
  rwa [numb_big] at this
theorem near_all (v s : Int) : -4611686018427387904 ≤ nearI v s ∧ nearI v s ≤ 4611686018427387904 := by
  have := near_bd (v := numb v) (s := s) (by decide) (numb_in v)
  unfold nearI at *
  rwa [numb_big] at this
theorem clamp8_in (v : Int) : -127 ≤ clampI v 8 ∧ clampI v 8 ≤ 127 := clampI_in v 8 (by decide)
theorem clamp_all (v x : Int) : -4611686018427387904 ≤ clampI v x ∧ clampI v x ≤ 4611686018427387904 := by
  have h := wid_in x
  have h2 := two_pow_ub (wid x) 31 h
  unfold clampI cl
  omega
def atI (a b i : Int) : Int := N (atB (bv a) (bv b) (bv i))
def atF (xa : List AV) : Int := match xa with
  | [.z a, .z b, .z i] => atI a b i
  | _ => 0
def chF (xa : List AV) : Int := match xa with
  | [.z v, .z s, .z r] => chanceI v s (bv r)
  | _ => 0
def nearF (xa : List AV) : Int := match xa with
  | [.z v, .z s] => nearI v s
  | _ => 0
def downF (xa : List AV) : Int := match xa with
  | [.z v, .z s] => downI v s
  | _ => 0
def clampF (xa : List AV) : Int := match xa with
  | [.z v, .z s] => clampI v s
  | _ => 0
theorem at_ok : CtrOk Try.prog 26 (intC [.int .u64, .int .u64, .int .u64] .u64 atF) := by
  intro xa w g vs ha _ hp
  obtain ⟨a1, as1, v1, vs1, rfl, rfl, h1, h⟩ := args_cons ha
  obtain ⟨a2, as2, v2, vs2, rfl, rfl, h2, h⟩ := args_cons h
  obtain ⟨a3, as3, v3, vs3, rfl, rfl, h3, h⟩ := args_cons h
  obtain ⟨rfl, rfl⟩ := args_nil h
  obtain ⟨x, rfl, rfl, q1⟩ := of_arg_int h1
  obtain ⟨y, rfl, rfl, q2⟩ := of_arg_int h2
  obtain ⟨z, rfl, rfl, q3⟩ := of_arg_int h3
  have hb := at_any (bv x) (bv y) (bv z) w
  rw [u64_bv q1, u64_bv q2, u64_bv q3] at hb
  refine hb.mono fun e w' ⟨he, hw⟩ => ⟨_, he, ?_⟩
  subst hw
  have := N_nn (atB (bv x) (bv y) (bv z))
  exact gv_val (v := .int .u64 (atI x y z)) ((stdIn_iff .u64 _).1 this) (Below.refl _ _)
theorem chance_ok : CtrOk Try.prog 25 (intC [.int .i64, .int .i64, .int .u64] .i64 chF) := by
  intro xa w g vs ha _ hp
  obtain ⟨a1, as1, v1, vs1, rfl, rfl, h1, h⟩ := args_cons ha
  obtain ⟨a2, as2, v2, vs2, rfl, rfl, h2, h⟩ := args_cons h
  obtain ⟨a3, as3, v3, vs3, rfl, rfl, h3, h⟩ := args_cons h
  obtain ⟨rfl, rfl⟩ := args_nil h
  obtain ⟨x, rfl, rfl, q1⟩ := of_arg_int h1
  obtain ⟨y, rfl, rfl, q2⟩ := of_arg_int h2
  obtain ⟨z, rfl, rfl, q3⟩ := of_arg_int h3
  have hb := chance_any x y (bv z) w
  rw [u64_bv q3] at hb
  refine hb.mono fun e w' ⟨he, n, hw⟩ => ⟨_, he, ?_⟩
  subst hw
  have := chance_all x y (bv z)
  exact gv_val (v := .int .i64 (chanceI x y (bv z))) (WalkArith.wf_i64 (by omega)) (below_drewN w n)
theorem near_ok : CtrOk Try.prog 28 (intC [.int .i64, .int .i64] .i64 nearF) := by
  intro xa w g vs ha _ hp
  obtain ⟨a1, as1, v1, vs1, rfl, rfl, h1, h⟩ := args_cons ha
  obtain ⟨a2, as2, v2, vs2, rfl, rfl, h2, h⟩ := args_cons h
  obtain ⟨rfl, rfl⟩ := args_nil h
  obtain ⟨x, rfl, rfl, q1⟩ := of_arg_int h1
  obtain ⟨y, rfl, rfl, q2⟩ := of_arg_int h2
  refine (near_any x y w).mono fun e w' ⟨he, n, hw⟩ => ⟨_, he, ?_⟩
  subst hw
  have := near_all x y
  exact gv_val (v := .int .i64 (nearI x y)) (WalkArith.wf_i64 (by omega)) (below_drewN w n)
theorem down_ok : CtrOk Try.prog 109 (intC [.int .i64, .int .i64] .i64 downF) := by
  intro xa w g vs ha _ hp
  obtain ⟨a1, as1, v1, vs1, rfl, rfl, h1, h⟩ := args_cons ha
  obtain ⟨a2, as2, v2, vs2, rfl, rfl, h2, h⟩ := args_cons h
  obtain ⟨rfl, rfl⟩ := args_nil h
  obtain ⟨x, rfl, rfl, q1⟩ := of_arg_int h1
  obtain ⟨y, rfl, rfl, q2⟩ := of_arg_int h2
  refine (down_any x y w).mono fun e w' ⟨he, hw⟩ => ⟨_, he, ?_⟩
  subst hw
  have := downI_in x y
  exact gv_val (v := .int .i64 (downI x y)) (WalkArith.wf_i64 (by omega)) (Below.refl _ _)
theorem clamp_ok : CtrOk Try.prog 29 (intC [.int .i64, .int .i64] .i64 clampF) := by
  intro xa w g vs ha _ hp
  obtain ⟨a1, as1, v1, vs1, rfl, rfl, h1, h⟩ := args_cons ha
  obtain ⟨a2, as2, v2, vs2, rfl, rfl, h2, h⟩ := args_cons h
  obtain ⟨rfl, rfl⟩ := args_nil h
  obtain ⟨x, rfl, rfl, q1⟩ := of_arg_int h1
  obtain ⟨y, rfl, rfl, q2⟩ := of_arg_int h2
  refine (clamp_any x y w).mono fun e w' ⟨he, hw⟩ => ⟨_, he, ?_⟩
  subst hw
  have := clamp_all x y
  exact gv_val (v := .int .i64 (clampI x y)) (WalkArith.wf_i64 (by omega)) (Below.refl _ _)
/-- What comes of such a struct and an error. -/
theorem ft_gv {g w w' : World} {k : IntKind} {E : TypeId} {v : Value} {t : Tn} {er : Int} (her : (Lit.int .i64 er).wf = true) (h : FT k E w.heap.size w' v t) (hb : Below w.heap.size w w') : Gv g noR 0 w (.tup [.agg [.hdl 0, .v (.int .i64 t.exp), .hdl 1], .v (.int .i64 er)], [(0, .irow 3 .i64 t.dims), (2, .irow E k t.data)]) (.tuple #[v, .int .i64 er]) w' := by
  obtain ⟨d, a, rfl, hd, ha, hn, f1, f2, hw, m1, m2⟩ := h
  have hd1 : one1 d := by rcases hd.2 with ⟨rfl, _⟩ | ⟨q, c, cur, rfl, _⟩ <;> exact ⟨rfl, rfl⟩
  have ha1 : one1 a := by rcases ha.2 with ⟨rfl, _⟩ | ⟨q, c, cur, rfl, _⟩ <;> exact ⟨rfl, rfl⟩
  have hv : vdeep (.tuple #[.agg #[d, .int .i64 t.exp, a], .int .i64 er]) = [d, .int .i64 t.exp, a, .int .i64 er] := by
    simp [vdeep, vflat1]
  refine ⟨hb, ?_, ?_, ?_⟩
  · simp only [SV.Is, LsIs]
    refine ⟨_, rfl, _, _, rfl, ⟨_, rfl, _, _, rfl, ?_, _, _, rfl, ⟨rfl, hw⟩, _, _, rfl, ?_, rfl⟩, _, _, rfl, ⟨rfl, her⟩, rfl⟩
    · simp [ext, hv]
    · simp [ext, hv]
  · intro j o hj
    match j, hj with
    | 0, hj =>
      simp at hj
      subst hj
      refine ⟨d, by rw [hv]; rfl, hd1, ?_⟩
      exact ⟨hd, f1⟩
    | 1, hj =>
      simp at hj
      subst hj
      refine ⟨a, by rw [hv]; rfl, ha1, ?_⟩
      exact ⟨ha, f2⟩
    | j + 2, hj => simp at hj
  · intro i j o p x y c hi hj hij hx hy hbx hby
    have key : ∀ b, blk d = some b → blk a ≠ some b := by
      intro b h1 h2
      rcases hd.2 with ⟨rfl, _⟩ | ⟨q, c, cur, rfl, _⟩
      · cases h1
      · rcases ha.2 with ⟨rfl, _⟩ | ⟨q2, c2, cur2, rfl, _⟩
        · cases h2
        · cases h1
          cases h2
          exact hn _ rfl rfl
    match i, j, hi, hj with
    | 0, 0, _, _ => exact hij rfl
    | 1, 1, _, _ => exact hij rfl
    | 0, 1, hi, hj =>
      simp at hi hj
      subst hi hj
      rw [hv] at hx hy
      cases hx
      cases hy
      exact key c hbx hby
    | 1, 0, hi, hj =>
      simp at hi hj
      subst hi hj
      rw [hv] at hx hy
      cases hx
      cases hy
      exact key c hby hbx
    | i + 2, _, hi, _ => simp at hi
    | _, j + 2, _, hj => simp at hj
def smE (xa : List AV) : Int := match xa with
  | [.st [.l D, .z e, .l L], .z x, .z s, .z r] => (smallE ⟨D, e, L⟩ x (bv s) (bv r)).2
  | _ => 0
def smR (xa : List AV) : Tn := match xa with
  | [.st [.l D, .z e, .l L], .z x, .z s, .z r] => (smallE ⟨D, e, L⟩ x (bv s) (bv r)).1
  | _ => ⟨[], 0, []⟩
theorem small_err (t : Tn) (x : Int) (s r : BitVec 64) : (smallE t x s r).2 = 0 ∨ ((smallE t x s r).2 = 1 ∨ (smallE t x s r).2 = 3) ∧ (smallE t x s r).1 = noT := by
  unfold smallE
  split
  · exact .inr ⟨.inl rfl, rfl⟩
  · simp only
    split
    · exact .inl rfl
    · exact .inr ⟨.inr rfl, rfl⟩
theorem small_ok : CtrOk Try.prog 46 (resU [tnTy .i32, .int .i64, .int .u64, .int .u64] .i8 3 52 smE smR) := by
  intro xa w g vs ha _ hp
  obtain ⟨a1, as1, v1, vs1, rfl, rfl, h1, h⟩ := args_cons ha
  obtain ⟨a2, as2, v2, vs2, rfl, rfl, h2, h⟩ := args_cons h
  obtain ⟨a3, as3, v3, vs3, rfl, rfl, h3, h⟩ := args_cons h
  obtain ⟨a4, as4, v4, vs4, rfl, rfl, h4, h⟩ := args_cons h
  obtain ⟨rfl, rfl⟩ := args_nil h
  obtain ⟨t, rfl, q1⟩ := of_arg_tn h1
  obtain ⟨y, rfl, rfl, q2⟩ := of_arg_int h2
  obtain ⟨z, rfl, rfl, q3⟩ := of_arg_int h3
  obtain ⟨z2, rfl, rfl, q4⟩ := of_arg_int h4
  have hb := small_any v1 t y (bv z) (bv z2) w q1
  rw [u64_bv q3, u64_bv q4] at hb
  refine hb.mono fun e w' ⟨v, he, hft, hbl⟩ => ⟨_, he, ?_⟩
  have e1 : smE [t.av, .z y, .z z, .z z2] = (smallE t y (bv z) (bv z2)).2 := rfl
  have e2 : smR [t.av, .z y, .z z, .z z2] = (smallE t y (bv z) (bv z2)).1 := rfl
  simp only [resU, Out.pick, e1, e2]
  refine ft_gv ?_ hft hbl
  rcases small_err t y (bv z) (bv z2) with h0 | ⟨h0 | h0, hn⟩ <;> rw [h0] <;> decide
end Go.Proofs.Ytekokhlldcmjfaa
