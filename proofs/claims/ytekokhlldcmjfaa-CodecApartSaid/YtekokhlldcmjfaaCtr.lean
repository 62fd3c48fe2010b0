/- Contracts of common kinds; walks' contracts as these. -/
import Derived.Test.YtekokhlldcmjfaaTt
import Derived.Test.YtekokhlldcmjfaaTensorB
namespace Go.Proofs.Ytekokhlldcmjfaa
open Go.RowKit
/-- A truth value comes. -/
def boolC (ts : List Ty) (f : List AV → Bool) : Ctr := ⟨ts, fun _ => none, fun xa => .ret (.v (.bool (f xa))) [], false⟩
/-- A number comes. -/
def intC (ts : List Ty) (k : IntKind) (f : List AV → Int) : Ctr := ⟨ts, fun _ => none, fun xa => .ret (.v (.int k (f xa))) [], false⟩
def intP (ts : List Ty) (k : IntKind) (p : List AV → Prop) (f : List AV → Int) : Ctr := ⟨ts, fun xa => some (p xa), fun xa => .ret (.v (.int k (f xa))) [], false⟩
/-- A tensor, or sums, come, or an error and nothing beside. -/
def resC (ts : List Ty) (k : IntKind) (tI tK : TypeId) (err : List AV → Int) (r : List AV → Tn) : Ctr :=
  ⟨ts, fun _ => none, fun xa => .ite (err xa = 0) (.ret (.tup [.agg [.hdl 0, .v (.int .i64 (r xa).exp), .hdl 1], .v (.int .i64 0)]) [(0, .irow tI .i64 (r xa).dims), (2, .irow tK k (r xa).data)])
    (.ret (.tup [.agg [.v (.slice none 0 0), .v (.int .i64 0), .v (.slice none 0 0)], .v (.int .i64 (err xa))]) []), false⟩
/-- The same, where it goes well. -/
def resP (ts : List Ty) (k : IntKind) (tI tK : TypeId) (p : List AV → Prop) (r : List AV → Tn) : Ctr :=
  ⟨ts, fun xa => some (p xa), fun xa => .ret (.tup [.agg [.hdl 0, .v (.int .i64 (r xa).exp), .hdl 1], .v (.int .i64 0)]) [(0, .irow tI .i64 (r xa).dims), (2, .irow tK k (r xa).data)], false⟩
/-- A contract that asks more, and says the same there. -/
theorem CtrOk.weaken {P : Program} {f : FuncId} {c c' : Ctr} (h : CtrOk P f c) (ht : c'.tys = c.tys) (ha : c'.al = c.al) (hp : ∀ xa, (∀ p, c'.pre xa = some p → p) → (∀ p, c.pre xa = some p → p) ∧ (c.res xa).pick = (c'.res xa).pick) : CtrOk P f c' := by
  intro xa w g vs hw hl hq
  rw [ht] at hw hl
  rw [ha] at hl ⊢
  obtain ⟨h1, h2⟩ := hp xa hq
  refine (h xa w g vs hw hl h1).mono fun e w' ⟨v, he, hg⟩ => ⟨v, he, ?_⟩
  rw [← h2]
  exact hg
theorem resP_of {P : Program} {f : FuncId} {ts : List Ty} {k : IntKind} {tI tK : TypeId} {err : List AV → Int} {r : List AV → Tn} {p : List AV → Prop} (h : CtrOk P f (resC ts k tI tK err r)) (hp : ∀ xa, p xa → err xa = 0) : CtrOk P f (resP ts k tI tK p r) := by
  refine h.weaken rfl rfl fun xa hq => ⟨fun p h => (by cases h), ?_⟩
  have h1 := hp xa (hq _ rfl)
  simp only [resC, resP, Out.pick, h1, if_true]
def shMayF (xa : List AV) : Bool := match xa with
  | [.l D] => mayD D
  | _ => false
theorem shMay_ok : CtrOk Try.prog 129 (boolC [.sl (.int .i64)] shMayF) := by
  intro xa w g vs ha _ hp
  obtain ⟨a, as', v, vs', rfl, rfl, h1, h⟩ := args_cons ha
  obtain ⟨rfl, rfl⟩ := args_nil h
  obtain ⟨l, rfl, h2⟩ := of_arg_ints h1
  refine (may_any v l w h2).mono fun e w' ⟨he, hw⟩ => ⟨_, he, ?_⟩
  subst hw
  exact gv_val trivial (Below.refl _ _)
def tnMayF (xa : List AV) : Bool := match xa with
  | [.st [.l D, .z e, .l L]] => mayB ⟨D, e, L⟩
  | _ => false
theorem tnMay_ok : CtrOk Try.prog 102 (boolC [tnTy .i8] tnMayF) := by
  intro xa w g vs ha _ hp
  obtain ⟨a, as', v, vs', rfl, rfl, h1, h⟩ := args_cons ha
  obtain ⟨rfl, rfl⟩ := args_nil h
  obtain ⟨t, rfl, h2⟩ := of_arg_tn h1
  refine (mayT_any v t w h2).mono fun e w' ⟨he, hw⟩ => ⟨_, he, gv_val trivial hw⟩
theorem downI_in (v s : Int) : -4611686018427387904 ≤ downI v s ∧ downI v s ≤ 4611686018427387904 := by
  unfold downI
  have h2 := numb_in v
  have h1 : (0 : Int) < 2 ^ shN s := Int.pow_pos (by decide)
  generalize (2 : Int) ^ shN s = p at h1 ⊢
  constructor
  · refine Int.le_ediv_of_mul_le h1 ?_
    have := Int.mul_le_mul_of_nonneg_left (show 1 ≤ p by omega) (show (0 : Int) ≤ 4611686018427387904 by omega)
    omega
  · refine Int.ediv_le_of_le_mul h1 ?_
    have := Int.mul_le_mul_of_nonneg_left (show 1 ≤ p by omega) (show (0 : Int) ≤ 4611686018427387904 by omega)
    omega
theorem alignI_in (v a b : Int) : -4611686018427387904 ≤ alignI v a b ∧ alignI v a b ≤ 4611686018427387904 := by
  unfold alignI
  split
  · exact downI_in _ _
  · have := cut20_in (cut20 v * 2 ^ (min (gap a b) 20).toNat)
    omega
def alF (xa : List AV) : Int := match xa with
  | [.z v, .z a, .z b] => alignI v a b
  | _ => 0
end Go.Proofs.Ytekokhlldcmjfaa
