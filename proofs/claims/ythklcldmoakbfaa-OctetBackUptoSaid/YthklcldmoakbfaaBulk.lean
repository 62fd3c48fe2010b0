/- What is of small bulk holds no slice that is long. -/
import Derived.Test.YthklcldmoakbfaaRows
import Derived.Test.YthklcldmoakbfaaProg
namespace Go.Proofs.Ythklcldmoakbfaa
open Go.Proofs.Ythklcldmoakbfaa.Rows
theorem bulk_pos {H : Type} (d : DataW H) : 1 ≤ uptoBulk d := by
  cases d with
  | lit l => cases l <;> simp [uptoBulk]
  | _ => simp [uptoBulk]
theorem bulk_len {H : Type} : ∀ (ds : List (DataW H)), ds.length ≤ uptoBulkAll ds
  | [] => Nat.zero_le _
  | d :: r => by
    have := bulk_len r
    have := bulk_pos d
    simp only [List.length_cons, uptoBulkAll]
    omega
theorem mul_up {a b B c : Nat} (h1 : a ≤ c) (h2 : b ≤ B) : a * b ≤ B * c := by
  rw [Nat.mul_comm]
  exact Nat.mul_le_mul h2 h1
theorem up_le {m B a c : Nat} (h : m ≤ B * a) (h1 : a ≤ c) : m ≤ B * c := Nat.le_trans h (Nat.mul_le_mul_left _ h1)
/-- Of the slices in it none has cells that are large. -/
def clB (P : Program) (B : Nat) : Nat → TypeId → Bool
  | 0, _ => false
  | n + 1, t => match P.underlying t with
    | some (.slice e) => decide (P.bytesOf e ≤ B) && clB P B n e
    | some (.struct fs) => fs.toList.all fun f => clB P B n f.type
    | some (.array _ e) => clB P B n e
    | some (.pointer _) => false
    | some (.map _ _) => false
    | _ => true
mutual
theorem weights_bulk {H : Type} {P : Program} {B : Nat} (hB1 : 1 ≤ B) : ∀ (d : DataW H) (t : TypeId) (n : Nat), clB P B n t = true → ∀ m ∈ d.weights P t, m ≤ B * uptoBulk d
  | .lit l, t, n, hc, m, h => by
    cases l <;> simp only [DataW.weights, List.mem_singleton, List.not_mem_nil] at h
    subst h
    simp only [uptoBulk]
    refine Nat.le_trans ?_ (Nat.mul_le_mul_right _ hB1)
    omega
  | .nil, t, n, hc, m, h => by simp [DataW.weights] at h
  | .ptr d, t, n, hc, m, h => by
    simp only [DataW.weights] at h
    split at h
    · rename_i hu
      cases n with
      | zero => simp [clB] at hc
      | succ n => simp [clB, hu] at hc
    · simp at h
  | .slice a b, t, n, hc, m, h => by
    simp only [DataW.weights] at h
    split at h
    · rename_i e hu
      cases n with
      | zero => simp [clB] at hc
      | succ n =>
        simp only [clB, hu, Bool.and_eq_true, decide_eq_true_eq] at hc
        simp only [List.mem_cons, List.mem_append] at h
        rcases h with rfl | h | h
        · have h1 := bulk_len a
          have h2 := bulk_len b
          exact mul_up (by simp only [uptoBulk]; omega) hc.1
        · exact up_le (all_bulk hB1 a _ n hc.2 m h) (by simp only [uptoBulk]; omega)
        · exact up_le (all_bulk hB1 b _ n hc.2 m h) (by simp only [uptoBulk]; omega)
    · simp at h
  | .agg ps, t, n, hc, m, h => by
    simp only [DataW.weights] at h
    split at h
    · rename_i fs hu
      cases n with
      | zero => simp [clB] at hc
      | succ n =>
        simp only [clB, hu, List.all_eq_true] at hc
        exact up_le (each_bulk hB1 ps _ n (fun t ht => by
          obtain ⟨f, hf, rfl⟩ := List.mem_map.1 ht
          exact hc f hf) m h) (by simp only [uptoBulk]; omega)
    · rename_i k e hu
      cases n with
      | zero => simp [clB] at hc
      | succ n =>
        simp only [clB, hu] at hc
        exact up_le (all_bulk hB1 ps _ n hc m h) (by simp only [uptoBulk]; omega)
    · simp at h
  | .iface _ _, t, n, hc, m, h => by simp [DataW.weights] at h
  | .map es, t, n, hc, m, h => by
    simp only [DataW.weights] at h
    split at h
    · rename_i k e hu
      cases n with
      | zero => simp [clB] at hc
      | succ n => simp [clB, hu] at hc
    · simp at h
  | .held _, t, n, hc, m, h => by simp [DataW.weights] at h
theorem all_bulk {H : Type} {P : Program} {B : Nat} (hB1 : 1 ≤ B) : ∀ (ds : List (DataW H)) (t : TypeId) (n : Nat), clB P B n t = true → ∀ m ∈ DataW.weightsAll P t ds, m ≤ B * uptoBulkAll ds
  | [], t, n, hc, m, h => by simp [DataW.weightsAll] at h
  | d :: r, t, n, hc, m, h => by
    simp only [DataW.weightsAll, List.mem_append] at h
    rcases h with h | h
    · exact up_le (weights_bulk hB1 d t n hc m h) (by simp only [uptoBulkAll]; omega)
    · exact up_le (all_bulk hB1 r t n hc m h) (by simp only [uptoBulkAll]; omega)
theorem each_bulk {H : Type} {P : Program} {B : Nat} (hB1 : 1 ≤ B) : ∀ (ds : List (DataW H)) (ts : List TypeId) (n : Nat), (∀ t ∈ ts, clB P B n t = true) → ∀ m ∈ DataW.weightsEach P ts ds, m ≤ B * uptoBulkAll ds
  | [], ts, n, hc, m, h => by cases ts <;> simp [DataW.weightsEach] at h
  | d :: r, ts, n, hc, m, h => by
    cases ts with
    | nil => simp [DataW.weightsEach] at h
    | cons t ts =>
      simp only [DataW.weightsEach, List.mem_append] at h
      rcases h with h | h
      · exact up_le (weights_bulk hB1 d t n (hc t (by simp)) m h) (by simp only [uptoBulkAll]; omega)
      · exact up_le (each_bulk hB1 r ts n (fun t ht => hc t (by simp [ht])) m h) (by simp only [uptoBulkAll]; omega)
end
theorem bulk_in {H : Type} {d : DataW H} {ds : List (DataW H)} (h : d ∈ ds) : uptoBulk d ≤ uptoBulkAll ds := by
  induction ds with
  | nil => simp at h
  | cons a r ih =>
    simp only [uptoBulkAll]
    rcases List.mem_cons.1 h with rfl | h
    · omega
    · have := ih h
      omega
/-- An argument of small bulk has no slice longer than so many bytes. -/
theorem small_weights {H : Type} {P : Program} {d : DataW H} {ds : List (DataW H)} {t : TypeId} {n : Nat} (hk : uptoBulkAll ds ≤ 1048576) (hd : d ∈ ds) (hc : clB P 1024 n t = true) : ∀ m ∈ d.weights P t, m ≤ 1073741824 := by
  intro m hm
  have h1 := weights_bulk (P := P) (B := 1024) (by decide) d t n hc m hm
  have h2 := bulk_in hd
  omega
end Go.Proofs.Ythklcldmoakbfaa
