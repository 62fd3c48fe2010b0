/- Layer 7: rows in order. -/
import Derived.Test.YtbdokpfjggilhaaTt
import Derived.Test.YtbdokpfjggilhaaShapeB
namespace Go.Proofs.Ytbdokpfjggilhaa
open Go.RowKit
set_option maxRecDepth 100000
set_option linter.unusedSimpArgs false
set_option linter.unusedVariables false
set_option maxHeartbeats 40000000
set_option cbv.maxSteps 10000000
def yes7 (_ : List AV) : Bool := true
def boolC7 (ts : List Ty) (f : List AV → Bool) : Ctr := ⟨ts, fun _ => none, fun xa => .ret (.v (.bool (f xa))) [], false⟩
def intC7 (ts : List Ty) (k : IntKind) (f : List AV → Int) : Ctr := ⟨ts, fun _ => none, fun xa => .ret (.v (.int k (f xa))) [], false⟩
def rowC7 (ts : List Ty) (E : TypeId) (k : IntKind) (f : List AV → List Int) : Ctr := ⟨ts, fun _ => none, fun xa => .ret (.hdl 0) [(0, .irow E k (f xa))], false⟩
def mayF7 (xa : List AV) : Bool := match xa with
  | [.l D] => mayD D
  | _ => false
def szF7 (xa : List AV) : Int := match xa with
  | [.l D] => szD D
  | _ => 0
def strF7 (xa : List AV) : List Int := match xa with
  | [.l D] => strD D
  | _ => []
def atF7 (xa : List AV) : List Int := match xa with
  | [.l D, .z i] => atD D i
  | _ => []
def idxF7 (xa : List AV) : Int := match xa with
  | [.l D, .l t] => idxD D t
  | _ => 0
def eqF7 (xa : List AV) : Bool := match xa with
  | [.l a, .l b] => a == b
  | _ => false
theorem below_drewN7 (w : World) (n : Nat) : Below w.heap.size w (w.drewN n) := ⟨rfl, rfl, rfl, Nat.le_refl _, fun _ _ => rfl⟩
theorem fresh_gv7 {g w w' : World} {E : TypeId} {k : IntKind} {l : List Int} {v : Value} (h : w'.ownsRow w.heap.size E 1 v l.length (kv k l)) (hf : Fits k l) (hb : Below w.heap.size w w') : Gv g noR 0 w (.hdl 0, [(0, .irow E k l)]) v w' := by
  have hd : vdeep v = [v] ∧ one1 v := by
    rcases h.2 with ⟨rfl, _⟩ | ⟨q, c, cur, rfl, _⟩ <;> exact ⟨rfl, rfl, rfl⟩
  refine ⟨hb, ?_, ?_, ?_⟩
  · simp only [SV.Is, ext]
    rw [if_neg (Nat.not_lt_zero _), hd.1]
    rfl
  · intro i o hi
    cases i with
    | succ i => simp at hi
    | zero =>
      simp at hi
      subst hi
      exact ⟨v, by rw [hd.1]; rfl, hd.2, h, hf⟩
  · intro i j o p a b c h1 h2 hne
    cases i with
    | succ i => simp at h1
    | zero => cases j with
      | succ j => simp at h2
      | zero => exact absurd rfl hne
theorem of1_7 {w : World} {k : IntKind} {xa : List AV} {vs : List Value} (h : ArgsIs w [.sl (.int k)] xa vs) : ∃ l v, xa = [.l l] ∧ vs = [v] ∧ Reads k w v l := by
  obtain ⟨a, as', v, vs', rfl, rfl, h1, h⟩ := args_cons h
  obtain ⟨rfl, rfl⟩ := args_nil h
  obtain ⟨l, rfl, h3⟩ := of_arg_ints h1
  exact ⟨l, v, rfl, rfl, h3⟩
theorem of2_7 {w : World} {k : IntKind} {xa : List AV} {vs : List Value} (h : ArgsIs w [.sl (.int k), .sl (.int k)] xa vs) : ∃ l m v u, xa = [.l l, .l m] ∧ vs = [v, u] ∧ Reads k w v l ∧ Reads k w u m := by
  obtain ⟨a, as', v, vs', rfl, rfl, h1, h⟩ := args_cons h
  obtain ⟨b, as'', u, vs', rfl, rfl, h2, h⟩ := args_cons h
  obtain ⟨rfl, rfl⟩ := args_nil h
  obtain ⟨l, rfl, h3⟩ := of_arg_ints h1
  obtain ⟨m, rfl, h4⟩ := of_arg_ints h2
  exact ⟨l, m, v, u, rfl, rfl, h3, h4⟩
theorem may7_ok : CtrOk Try.prog 10 (boolC7 [.sl (.int .i64)] mayF7) := by
  intro xa w g vs ha _ hp
  obtain ⟨l, v, rfl, rfl, h1⟩ := of1_7 ha
  refine (may_any v l w h1).mono fun e w' ⟨he, hw⟩ => ⟨_, he, ?_⟩
  subst hw
  exact gv_val trivial (Below.refl _ _)
theorem szD_in7 (D : List Int) : 0 ≤ szD D ∧ szD D ≤ 8192 := by
  by_cases h : mayD D = true
  · have h1 := ((mayD_iff D).1 h).2
    have h2 := prodFrom_pos 1 D (by omega) h1.1
    unfold szD
    rw [if_pos h]
    omega
  · unfold szD
    rw [if_neg h]
    omega
theorem size7_ok : CtrOk Try.prog 12 (intC7 [.sl (.int .i64)] .i64 szF7) := by
  intro xa w g vs ha _ hp
  obtain ⟨l, v, rfl, rfl, h1⟩ := of1_7 ha
  refine (size_any v l w h1).mono fun e w' ⟨he, hw⟩ => ⟨_, he, ?_⟩
  subst hw
  have := szD_in7 l
  exact gv_val (v := .int .i64 (szD l)) (WalkArith.wf_i64 (by omega)) (Below.refl _ _)
theorem same7_ok : CtrOk Try.prog 17 (boolC7 [.sl (.int .i64), .sl (.int .i64)] eqF7) := by
  intro xa w g vs ha _ hp
  obtain ⟨l, m, v, u, rfl, rfl, h1, h2⟩ := of2_7 ha
  refine (same_any v u l m w h1 h2).mono fun e w' ⟨he, n, hw⟩ => ⟨_, he, ?_⟩
  subst hw
  exact gv_val trivial (below_drewN7 w n)
theorem str7_ok : CtrOk Try.prog 15 (rowC7 [.sl (.int .i64)] 3 .i64 strF7) := by
  intro xa w g vs ha _ hp
  obtain ⟨l, v, rfl, rfl, h1⟩ := of1_7 ha
  refine (strides_any v l w h1).mono fun e w' ⟨u, he, ho, hb⟩ => ⟨_, he, ?_⟩
  rw [kv_len] at ho
  exact fresh_gv7 ho (strD_fits l).1 hb
theorem at7_ok : CtrOk Try.prog 20 (rowC7 [.sl (.int .i64), .int .i64] 3 .i64 atF7) := by
  intro xa w g vs ha _ hp
  obtain ⟨a1, as1, v1, vs1, rfl, rfl, h1, h⟩ := args_cons ha
  obtain ⟨a2, as2, v2, vs2, rfl, rfl, h2, h⟩ := args_cons h
  obtain ⟨rfl, rfl⟩ := args_nil h
  obtain ⟨l, rfl, h3⟩ := of_arg_ints h1
  obtain ⟨i, rfl, rfl, _⟩ := of_arg_int h2
  refine (at_any v1 l i w h3).mono fun e w' ⟨u, he, ho, hb⟩ => ⟨_, he, ?_⟩
  rw [kv_len] at ho
  exact fresh_gv7 ho (fits_small (atD_in l i).1) hb
theorem idxFrom_in (d : List Int) : ∀ (n : Int) (t : List Int), (∀ x ∈ d, 1 ≤ x ∧ x ≤ 4096) → t.length = d.length → idxFrom n d t = -1 ∨ (n ≤ idxFrom n d t ∧ idxFrom n d t < n + prodFrom 1 d) := by
  induction d with
  | nil =>
    intro n t _ hl
    cases t with
    | nil => right; simp [idxFrom, prodFrom]; omega
    | cons a t => simp at hl
  | cons x d ih =>
    intro n t hx hl
    cases t with
    | nil => simp at hl
    | cons a t =>
      have hd : ∀ y ∈ d, 1 ≤ y ∧ y ≤ 4096 := fun y hy => hx y (List.mem_cons_of_mem _ hy)
      have hS := prodFrom_pos 1 d (by omega) hd
      unfold idxFrom
      by_cases hc : a < 0 ∨ x ≤ a
      · rw [if_pos hc]; exact .inl rfl
      · rw [if_neg hc]
        rcases ih (n + a * prodFrom 1 d) t hd (by simpa using hl) with h | h
        · exact .inl h
        · right
          rw [prodFrom_cons, Int.one_mul, prodFrom_one x]
          have h1 : 0 ≤ a * prodFrom 1 d := Int.mul_nonneg (by omega) (by omega)
          have h2 : (a + 1) * prodFrom 1 d ≤ x * prodFrom 1 d := Int.mul_le_mul_of_nonneg_right (by omega) (by omega)
          rw [Int.add_mul, Int.one_mul] at h2
          omega
theorem idxD_in (d t : List Int) : -9223372036854775808 ≤ idxD d t ∧ idxD d t ≤ 9223372036854775807 := by
  unfold idxD
  split
  · rename_i h
    obtain ⟨_, hx, hp⟩ := (mayD_iff d).1 h.1
    have := idxFrom_in d 0 t hx h.2
    omega
  · omega
theorem idx7_ok : CtrOk Try.prog 18 (intC7 [.sl (.int .i64), .sl (.int .i64)] .i64 idxF7) := by
  intro xa w g vs ha _ hp
  obtain ⟨l, m, v, u, rfl, rfl, h1, h2⟩ := of2_7 ha
  refine (index_any v u l m w h1 h2).mono fun e w' ⟨he, hw⟩ => ⟨_, he, ?_⟩
  have := idxD_in l m
  exact gv_val (v := .int .i64 (idxD l m)) (WalkArith.wf_i64 (by omega)) hw
theorem awake7_ok : CtrOk Try.prog 24 (boolC7 [] yes7) := by
  intro xa w g vs ha _ hp
  obtain ⟨rfl, rfl⟩ := args_nil ha
  refine (awake7_any w).mono fun e w' ⟨he, hw⟩ => ⟨_, he, ?_⟩
  exact gv_val trivial hw
/-- The first place at which they differ tells. -/
theorem lex_lt (d : List Int) : ∀ (i j : Int) (k : Nat), (∀ x ∈ d, 1 ≤ x ∧ x ≤ 4096) → 0 ≤ i → 0 ≤ j → k < d.length → (∀ m, m < k → (atFrom i (stridesOf d)).getD m 0 = (atFrom j (stridesOf d)).getD m 0) → (atFrom i (stridesOf d)).getD k 0 < (atFrom j (stridesOf d)).getD k 0 → i < j := by
  induction d with
  | nil => intro i j k _ _ _ hk; simp at hk
  | cons x d ih =>
    intro i j k hx hi hj hk heq hlt
    have hd : ∀ y ∈ d, 1 ≤ y ∧ y ≤ 4096 := fun y hy => hx y (List.mem_cons_of_mem _ hy)
    have hS := prodFrom_pos 1 d (by omega) hd
    have hm1 := Int.mul_ediv_add_emod i (prodFrom 1 d)
    have hm2 := Int.mul_ediv_add_emod j (prodFrom 1 d)
    have a1 := Int.emod_nonneg i (show prodFrom 1 d ≠ 0 by omega)
    have a2 := Int.emod_lt_of_pos i (show 0 < prodFrom 1 d by omega)
    have b1 := Int.emod_nonneg j (show prodFrom 1 d ≠ 0 by omega)
    have b2 := Int.emod_lt_of_pos j (show 0 < prodFrom 1 d by omega)
    cases k with
    | zero =>
      have h : i / prodFrom 1 d < j / prodFrom 1 d := hlt
      by_cases hle : j ≤ i
      · have := Int.ediv_le_ediv (show 0 < prodFrom 1 d by omega) hle
        omega
      · omega
    | succ k =>
      have h0 : i / prodFrom 1 d = j / prodFrom 1 d := heq 0 (by omega)
      have h1 := ih (i % prodFrom 1 d) (j % prodFrom 1 d) k hd a1 b1 (by simpa using hk) (fun m hm => heq (m + 1) (by omega)) hlt
      rw [h0] at hm1
      omega
theorem last_one (d : List Int) (h : 1 ≤ d.length) : (stridesOf d).getD (d.length - 1) 0 = 1 := by
  rw [stridesOf_getD _ _ (by omega), show d.length - 1 + 1 = d.length by omega, List.drop_length]
  rfl
theorem first_all (d : List Int) (h : 1 ≤ d.length) : (stridesOf d).getD 0 0 * d.getD 0 0 = prodFrom 1 d := by
  cases d with
  | nil => simp at h
  | cons x d =>
    rw [stridesOf_getD _ _ (by simp)]
    show prodFrom 1 d * x = prodFrom 1 (x :: d)
    rw [prodFrom_cons, Int.one_mul, prodFrom_one x, Int.mul_comm]
/-- With a length of 1 ahead. -/
theorem one_more {d : List Int} {i : Int} (hm : mayD d = true) (h4 : d.length < 4) (h0 : 0 ≤ i) (h1 : i < szD d) : mayD (1 :: d) = true ∧ szD (1 :: d) = szD d ∧ idxD (1 :: d) (0 :: atD d i) = i := by
  obtain ⟨hl, hx, hp⟩ := (mayD_iff d).1 hm
  have hq : prodFrom 1 (1 :: d) = prodFrom 1 d := by rw [prodFrom_cons, Int.one_mul]
  have hm1 : mayD (1 :: d) = true := by
    refine (mayD_iff _).2 ⟨by simp; omega, fun x hx1 => ?_, by rw [hq]; exact hp⟩
    rcases List.mem_cons.1 hx1 with rfl | h
    · omega
    · exact hx x h
  obtain ⟨b1, b2, b3, b4⟩ := back_all d i hm h0 h1
  have hs : strD d = stridesOf d := by unfold strD; rw [if_pos hm]
  rw [hs] at b3
  refine ⟨hm1, by unfold szD; rw [if_pos hm1, if_pos hm, hq], ?_⟩
  unfold idxD
  rw [if_pos ⟨hm1, by simp [b1]⟩, idx_dot 0 (1 :: d) (0 :: atD d i) (by simp [b1]) (fun k hk => ?_)]
  · simp only [stridesOf, dotL]
    rw [b3]
    omega
  · cases k with
    | zero => simp
    | succ k => simpa using b4 k (by simpa using hk)
theorem dot_same {d : List Int} {i j : Int} (hm : mayD d = true) (hi : 0 ≤ i ∧ i < szD d) (hj : 0 ≤ j ∧ j < szD d) (h : ∀ m, m < d.length → (atD d i).getD m 0 = (atD d j).getD m 0) : i = j := by
  have a := back_all d i hm hi.1 hi.2
  have b := back_all d j hm hj.1 hj.2
  have e : atD d i = atD d j := by
    apply List.ext_getElem (by rw [a.1, b.1])
    intro m h1 h2
    have := h m (by rw [← a.1]; exact h1)
    rw [List.getD_eq_getElem?_getD, List.getD_eq_getElem?_getD, List.getElem?_eq_getElem h1, List.getElem?_eq_getElem h2] at this
    exact this
  rw [← a.2.2.1, ← b.2.2.1, e]
theorem wrapu7 {n : Int} (h : 0 ≤ n ∧ n ≤ 8192) : IntKind.u64.wrap n = n := by
  have : IntKind.u64.wrap n = n % 18446744073709551616 := by simp [IntKind.wrap, IntKind.bits, IntKind.signed]
  rw [this]; omega
theorem modU7 (k m : Int) (h0 : 0 < m) (h1 : m ≤ 1000000) : 0 ≤ IntKind.i64.wrap ((IntKind.u64.wrap k).tmod m) ∧ IntKind.i64.wrap ((IntKind.u64.wrap k).tmod m) < m := by
  have hw : ∀ z : Int, IntKind.u64.wrap z = z % 18446744073709551616 := fun z => by simp [IntKind.wrap, IntKind.bits, IntKind.signed]
  rw [hw]
  have h2 : 0 ≤ k % 18446744073709551616 := Int.emod_nonneg _ (by decide)
  rw [Int.tmod_eq_emod_of_nonneg h2]
  have h3 := Int.emod_nonneg (k % 18446744073709551616) (show m ≠ 0 by omega)
  have h4 := Int.emod_lt_of_pos (k % 18446744073709551616) h0
  rw [w64 (by omega) (by omega)]
  exact ⟨h3, h4⟩
theorem lex_main {d : List Int} {I J : Int} (hm : mayD d = true) (hI : 0 ≤ I ∧ I < szD d) (hJ : 0 ≤ J ∧ J < szD d) {k : Nat} (hk : k < d.length) (h : ∀ m, m < k → (atD d I).getD m 0 = (atD d J).getD m 0) : ((atD d I).getD k 0 < (atD d J).getD k 0 → I < J) ∧ ((atD d J).getD k 0 < (atD d I).getD k 0 → J < I) := by
  obtain ⟨hl, hx, hp⟩ := (mayD_iff d).1 hm
  have e1 : atD d I = atFrom I (stridesOf d) := by unfold atD; rw [if_neg (by omega)]
  have e2 : atD d J = atFrom J (stridesOf d) := by unfold atD; rw [if_neg (by omega)]
  simp only [e1, e2] at h ⊢
  exact ⟨lex_lt d I J k hx hI.1 hJ.1 hk h, lex_lt d J I k hx hJ.1 hI.1 hk (fun m hm => (h m hm).symm)⟩
theorem size_one {d : List Int} (hm : mayD d = true) : 1 ≤ szD d ∧ 1 ≤ d.length ∧ d.length ≤ 4 ∧ strD d = stridesOf d ∧ (stridesOf d).length = d.length ∧ (stridesOf d).getD (d.length - 1) 0 = 1 ∧ (stridesOf d).getD 0 0 * d.getD 0 0 = szD d := by
  obtain ⟨hl, hx, hp⟩ := (mayD_iff d).1 hm
  have h1 := prodFrom_pos 1 d (by omega) hx
  have h2 : szD d = prodFrom 1 d := by unfold szD; rw [if_pos hm]
  exact ⟨by omega, hl.1, hl.2, by unfold strD; rw [if_pos hm], stridesOf_len d, last_one d hl.1, by rw [h2]; exact first_all d hl.1⟩
theorem beqI (a b : Int) : (a == b) = decide (a = b) := rfl
theorem rows7_ok : CtrOk Try.prog 6 (boolC7 [.sl (.int .i64), .int .i64, .int .i64] yes7) := by
  obtain ⟨G, hG⟩ : ∃ G : List (FuncId × Ctr), G = [(10, boolC7 [.sl (.int .i64)] mayF7), (12, intC7 [.sl (.int .i64)] .i64 szF7), (17, boolC7 [.sl (.int .i64), .sl (.int .i64)] eqF7), (15, rowC7 [.sl (.int .i64)] 3 .i64 strF7), (20, rowC7 [.sl (.int .i64), .int .i64] 3 .i64 atF7), (18, intC7 [.sl (.int .i64), .sl (.int .i64)] .i64 idxF7), (24, boolC7 [] yes7)] := ⟨_, rfl⟩
  refine fn_ok (ck := true) Try.func6 rfl tt_ok (G := G) (by rw [hG]; exact ⟨⟨may7_ok, by unfold FnOk; kernel_rfl⟩, ⟨size7_ok, by unfold FnOk; kernel_rfl⟩, ⟨same7_ok, by unfold FnOk; kernel_rfl⟩, ⟨str7_ok, by unfold FnOk; kernel_rfl⟩, ⟨at7_ok, by unfold FnOk; kernel_rfl⟩, ⟨idx7_ok, by unfold FnOk; kernel_rfl⟩, ⟨awake7_ok, by unfold FnOk; kernel_rfl⟩, trivial⟩) mixed (by kernel_rfl) ?_
  intro xa xs h hx hp
  obtain ⟨a0, as0, x0, xs0, rfl, rfl, h0, H1⟩ := svArgs_cons h
  obtain ⟨a1, as1, x1, xs1, rfl, rfl, h1, H2⟩ := svArgs_cons H1
  obtain ⟨a2, as2, x2, xs2, rfl, rfl, h2, H3⟩ := svArgs_cons H2
  obtain ⟨rfl, rfl⟩ := svArgs_nil H3
  obtain ⟨d, rfl, rfl⟩ := argSV_ints h0
  obtain ⟨i, rfl, rfl⟩ := argSV_int h1
  obtain ⟨j, rfl, rfl⟩ := argSV_int h2
  have sd : Fits .i64 d ∧ ci d.length ≤ 9223372036854775807 := svf_ints (hx (.iimm .i64 d) (by simp))
  have si := of_i64 (hx (.v (.int .i64 i)) (by simp))
  have sj := of_i64 (hx (.v (.int .i64 j)) (by simp))
  have SD := Lib.hid sd
  clear sd
  have SI := Lib.hid si
  clear si
  have SJ := Lib.hid sj
  clear sj
  clear hx hp h h0 H1 h1 H2 h2 H3
  subst hG
  generalize hA : std = A
  generalize h_c : ci = c
  generalize h_fm : mayF7 = fm
  generalize h_fz : szF7 = fz
  generalize h_fq : eqF7 = fq
  generalize h_fs : strF7 = fs
  generalize h_fa : atF7 = fa
  generalize h_fx : idxF7 = fx
  generalize h_fY : yes7 = fY
  cbv
  (repeat' (first | apply And.intro | apply BrB.mk | apply BrP.mk | intro _))
  all_goals try (refine loop_at Nat 90 (fun k => [(11, .v (.int .i64 0)), (12, .any), (90, .v (.int .i64 (c k)))]) (fun _ o => o) (fun k => k ≤ d.length ∧ ∀ m, m < k → (atD d (IntKind.i64.wrap ((IntKind.u64.wrap i).tmod (IntKind.u64.wrap (szD d))))).getD m 0 = (atD d (IntKind.i64.wrap ((IntKind.u64.wrap j).tmod (IntKind.u64.wrap (szD d))))).getD m 0) (fun k => d.length - k) 0 ?h0 ?hle ?round)
  case h0 => exact ⟨Nat.zero_le _, fun m hm => by omega⟩
  case hle => (cbv; (repeat' (first | apply And.intro | apply BrB.mk | apply BrP.mk | intro _)); all_goals (subst hA; subst h_c; subst h_fm; subst h_fz; subst h_fq; subst h_fs; subst h_fa; subst h_fx; subst h_fY); all_goals (have f_sd := SD.out; have f_si := SI.out; have f_sj := SJ.out); all_goals (try simp only [std, stdBin, stdCmp, stdUna, stdIn, ci, beq_iff_eq, bne_iff_ne, beq_eq_false_iff_ne, bne_eq_false_iff_eq, decide_eq_true_eq, decide_eq_false_iff_not, Bool.not_true, Bool.not_false, Bool.not_eq_true', Bool.not_eq_false', Bool.not_not, tn0, tn1, tn2, tn3] at *); (all_goals first | exact True.intro | rfl | exact congrArg (Value.int .i64) (by omega)))
  case round =>
    intro k hk
    cbv
    (repeat' (first | apply And.intro | apply BrB.mk | apply BrP.mk | intro _))
    all_goals try (refine ⟨k + 1, ?_, ?_, ?_⟩)
    all_goals try (show AS.le _ _; cbv; (repeat' (first | apply And.intro | apply BrB.mk | apply BrP.mk | intro _)))
    (all_goals (subst hA; subst h_c; subst h_fm; subst h_fz; subst h_fq; subst h_fs; subst h_fa; subst h_fx; subst h_fY); all_goals (have f_sd := SD.out; have f_si := SI.out; have f_sj := SJ.out); all_goals (try simp only [std, stdBin, stdCmp, stdUna, stdIn, ci, beq_iff_eq, bne_iff_ne, beq_eq_false_iff_ne, bne_eq_false_iff_eq, decide_eq_true_eq, decide_eq_false_iff_not, Bool.not_true, Bool.not_false, Bool.not_eq_true', Bool.not_eq_false', Bool.not_not, tn0, tn1, tn2, tn3, mayF7, szF7, atF7, strF7, idxF7, eqF7] at *); all_goals (try omega))
    all_goals (try first | exact True.intro | (exact congrArg _ (Int.natCast_add k 1)))
    (all_goals (have hd : mayD d = true := (by assumption); obtain ⟨z1, z2, z3, z4, z5, z6, z7⟩ := size_one hd; have z8 := szD_in7 d; have hw := wrapu7 (n := szD d) (by omega); have hI := modU7 i (szD d) (by omega) (by omega); have hJ := modU7 j (szD d) (by omega) (by omega); have tn : ((d.length : Int) - 1).toNat = d.length - 1 := (by omega); (try simp only [hw, z4, z5, tn] at *); generalize IntKind.i64.wrap ((IntKind.u64.wrap i).tmod (szD d)) = I at *; generalize IntKind.i64.wrap ((IntKind.u64.wrap j).tmod (szD d)) = J at *; have bI := (back_all d I hd hI.1 hI.2).1; have bJ := (back_all d J hd hJ.1 hJ.2).1; have om := (fun h4 => one_more hd h4 hI.1 hI.2); have OM := Lib.hid om; clear om; (try simp only [bI, bJ, z6, z7, beqI, decide_eq_decide, ne_eq, true_iff, List.cons_append, List.nil_append, List.length_cons, List.length_nil, Int.toNat_natCast] at *)))
    all_goals (have lx : (k < d.length → ((atD d I).getD k 0 < (atD d J).getD k 0 → I < J) ∧ ((atD d J).getD k 0 < (atD d I).getD k 0 → J < I)) ∧ (¬ k < d.length → I = J) := ⟨fun h => lex_main hd hI hJ h hk.2, fun h => dot_same hd hI hJ (fun m hm => hk.2 m (by omega))⟩)
    all_goals (try first | omega | rfl | contradiction)
    all_goals (have hn : k < d.length → (atD d I).getD k 0 = (atD d J).getD k 0 → (k + 1 ≤ d.length ∧ ∀ m, m < k + 1 → (atD d I).getD m 0 = (atD d J).getD m 0) := fun h1 h2 => ⟨h1, fun m hm => by
      by_cases e : m = k
      · subst e; exact h2
      · exact hk.2 m (by omega)⟩)
    all_goals (
      by_cases h4 : d.length < 4
      · obtain ⟨o1, o2, o3⟩ := OM.out h4
        (try simp only [o1, o2, o3, not_true_eq_false, reduceCtorEq] at *)
        (try first | omega | rfl | contradiction | exact hn (by omega) (by assumption))
      · (try first | omega | rfl | contradiction | exact hn (by omega) (by assumption)))
  (all_goals (subst hA; subst h_c; subst h_fm; subst h_fz; subst h_fq; subst h_fs; subst h_fa; subst h_fx; subst h_fY); all_goals (have f_sd := SD.out; have f_si := SI.out; have f_sj := SJ.out); all_goals (try simp only [std, stdBin, stdCmp, stdUna, stdIn, ci, beq_iff_eq, bne_iff_ne, beq_eq_false_iff_ne, bne_eq_false_iff_eq, decide_eq_true_eq, decide_eq_false_iff_not, Bool.not_true, Bool.not_false, Bool.not_eq_true', Bool.not_eq_false', Bool.not_not, tn0, tn1, tn2, tn3, mayF7, szF7, atF7, strF7, idxF7, eqF7] at *); all_goals (try omega))
  all_goals (try first | rfl | exact True.intro)
  (all_goals (have hd : mayD d = true := (by assumption); obtain ⟨z1, z2, z3, z4, z5, z6, z7⟩ := size_one hd; have z8 := szD_in7 d; have hw := wrapu7 (n := szD d) (by omega); have hI := modU7 i (szD d) (by omega) (by omega); have hJ := modU7 j (szD d) (by omega) (by omega); have tn : ((d.length : Int) - 1).toNat = d.length - 1 := (by omega); (try simp only [hw, z4, z5, tn] at *); generalize IntKind.i64.wrap ((IntKind.u64.wrap i).tmod (szD d)) = I at *; generalize IntKind.i64.wrap ((IntKind.u64.wrap j).tmod (szD d)) = J at *; have bI := (back_all d I hd hI.1 hI.2).1; have bJ := (back_all d J hd hJ.1 hJ.2).1; have om := (fun h4 => one_more hd h4 hI.1 hI.2); have OM := Lib.hid om; clear om; (try simp only [bI, bJ, z6, z7, beqI, decide_eq_decide, ne_eq, true_iff, List.cons_append, List.nil_append, List.length_cons, List.length_nil, Int.toNat_natCast] at *)))
  all_goals (try first | omega | rfl | contradiction)
  all_goals (exact absurd (hd.symm.trans (show mayD d = false by assumption)) (by decide))
end Go.Proofs.Ytbdokpfjggilhaa
