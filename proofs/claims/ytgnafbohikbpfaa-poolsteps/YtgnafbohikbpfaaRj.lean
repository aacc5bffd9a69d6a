/-
  What a step makes of a pool; how pins grow.
-/
import Derived.Test.YtgnafbohikbpfaaRi
namespace Go.Proofs.Ytgnafbohikbpfaa
set_option maxRecDepth 100000
set_option linter.unusedSimpArgs false
open Go.RowKit


/-- A step: its kind, its page, its frame. -/
structure Se where
  kd : Int
  pg : Int
  f : Fr
def Se.C (x : Se) : List Value := .int .i64 x.kd :: .int .i64 x.pg :: x.f.C
theorem Se.len (x : Se) : x.C.length = 104 := by simp [Se.C, Fr.len]
theorem Se.one (x : Se) : ∀ v ∈ x.C, v.oneCell' = true := by
  intro v hv
  rcases List.mem_cons.1 hv with rfl | hv
  · rfl
  · rcases List.mem_cons.1 hv with rfl | hv
    · rfl
    · exact Fr.one _ v hv
/-- What a step leaves of a pool. -/
def doP (P : Po) (x : Se) : Po := if x.kd = 1 then (setP P x.f).1 else if x.kd = 2 then (getP P x.pg).1 else if x.kd = 3 then (dropP P x.pg).1 else if x.kd = 4 then (pinP P x.pg).1 else if x.kd = 5 then (unpinP P x.pg).1 else if x.kd = 6 then P.vic.1 else if x.kd = 7 then po0 P.m else P
def stepsP (P : Po) (xs : List Se) : Po := xs.foldl doP P
theorem up_pn {P : Po} {q n : Nat} {x : Pl} (h : ∀ i, (P.S i).pn ≤ n) (hx : x.pn ≤ n) : ∀ i, ((P.up q x).S i).pn ≤ n := by
  intro i
  rw [P.up_S]
  split
  · exact hx
  · exact h i
theorem vic_pn (P : Po) {n : Nat} (h : ∀ i, (P.S i).pn ≤ n) : ∀ i, (P.vic.1.S i).pn ≤ n := by
  intro i
  unfold Po.vic
  split
  · show (P.vS _ i).pn ≤ n; rw [(vS_f P _ i).2.1]; exact h i
  · show (P.vS _ i).pn ≤ n; rw [(vS_f P _ i).2.1]; exact h i
theorem doP_pn {P : Po} {n : Nat} (h : ∀ i, (P.S i).pn ≤ n) (x : Se) : ∀ i, ((doP P x).S i).pn ≤ n + 1 := by
  have h1 : ∀ i, (P.S i).pn ≤ n + 1 := fun i => Nat.le_succ_of_le (h i)
  unfold doP
  split
  · unfold setP
    split
    · split
      · exact up_pn h1 (h1 _)
      · split
        · exact h1
        · exact up_pn h1 (h1 _)
    · exact h1
  · split
    · unfold getP
      split
      · exact up_pn h1 (h1 _)
      · exact h1
    · split
      · unfold dropP
        split
        · exact up_pn h1 (Nat.zero_le _)
        · exact h1
      · split
        · unfold pinP
          split
          · exact up_pn h1 (Nat.succ_le_succ (h _))
          · exact h1
        · split
          · unfold unpinP
            split
            · split
              · exact h1
              · exact up_pn h1 (Nat.le_trans (Nat.sub_le _ _) (h1 _))
            · exact h1
          · split
            · exact vic_pn P h1
            · split
              · intro i; exact Nat.zero_le _
              · exact h1
theorem stepsP_pn (m : Nat) : ∀ (xs : List Se) (P : Po) (n : Nat), (∀ i, (P.S i).pn ≤ n) → ∀ i, ((stepsP P xs).S i).pn ≤ n + xs.length
  | [], P, n, h => h
  | x :: xs, P, n, h => fun i => by
    have h2 := stepsP_pn m xs (doP P x) (n + 1) (doP_pn h x) i
    show ((stepsP (doP P x) xs).S i).pn ≤ n + (xs.length + 1)
    omega
theorem vic_m (P : Po) : P.vic.1.m = P.m := by unfold Po.vic; split <;> rfl
theorem doP_m (P : Po) (x : Se) : (doP P x).m = P.m := by
  unfold doP
  split
  · unfold setP
    split
    · split
      · rfl
      · split <;> rfl
    · rfl
  · split
    · unfold getP; split <;> rfl
    · split
      · unfold dropP; split <;> rfl
      · split
        · unfold pinP; split <;> rfl
        · split
          · unfold unpinP
            split
            · split <;> rfl
            · rfl
          · split
            · exact vic_m P
            · split <;> rfl

end Go.Proofs.Ytgnafbohikbpfaa
