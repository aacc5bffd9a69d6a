/-
  Plain facts for the walk of AreaWhere.
-/
import Derived.Test.YtcfoebpbbmnleaaWhere
import Derived.Test.YtcfoebpbbmnleaaKnown
namespace Go.Proofs.Ytcfoebpbbmnleaa
open Go.RowKit

/-- An ask. -/
structure Ask where
  n : Int
  p : Int
  s : Int
  l : Int
def askC (x : Ask) : List Value := fourC x.n x.p x.s x.l
/-- A slice that holds these asks. -/
def AskS (w : World) (ao : Option Addr) (l : List Ask) : Prop := ∀ (i : Nat) (x : Ask), l[i]? = some x → ∃ b o, ao = some ⟨b, o, none⟩ ∧ w.rangeAt b (o + i * 4) (askC x)
theorem AskS.kept {w w' : World} {ao : Option Addr} {l : List Ask} (h : AskS w ao l) (hk : Kept [] w w') : AskS w' ao l := by
  intro i x hx
  obtain ⟨b, o, e, hr⟩ := h i x hx
  exact ⟨b, o, e, fun i u hu => hk.cell (hr i u hu) (by simp)⟩
theorem of_out {j : Job} (s : Int) (h : s < 0 ∨ (j.N : Int) ≤ s) : j.of s = (⟨0, 0, 0, 0⟩, 2) := by
  cases hm : j.may with
  | false => simp [Job.of, hm]
  | true =>
    have hN := Job.N_yes hm
    have hL := Job.L_le hm
    have hP := Job.p_le hm
    rcases h with h | h
    · have : ¬ (0 ≤ s) := by omega
      simp [Job.of, this]
    · rcases find_ways j s with ⟨_, hf⟩ | ⟨_, _, hf⟩ | ⟨_, _, hf⟩ | ⟨_, _, _, hf⟩ | ⟨_, _, _, hf⟩
      · omega
      · omega
      · omega
      · omega
      · simp [Job.of, hf]
theorem of_in {j : Job} (k : Nat) (h : k < j.N) : j.of k = (j.pl k, 0) := by
  cases hm : j.may with
  | false => rw [Job.N_no hm] at h; omega
  | true =>
    have hN := Job.N_yes hm
    rcases find_ways j k with ⟨_, hf⟩ | ⟨_, _, hf⟩ | ⟨_, _, hf⟩ | ⟨_, _, _, hf⟩ | ⟨_, _, _, hf⟩
    · simp [Job.pl, Job.of, hm, hf]
    · simp [Job.pl, Job.of, hm, hf]
    · simp [Job.pl, Job.of, hm, hf]
    · simp [Job.pl, Job.of, hm, hf]
    · omega
theorem pl_zero (w : World) : (Op.equal 37 (aggV (fourC 0 0 0 0)) (aggV (fourC 0 0 0 0))).run Try.prog w = .ok true w := by
  rw [equal37]; rfl
section
variable {o : Oper} {a : Act} {w : World} {K : Act → World → Prop} {Q : Exit → Act → World → Prop}
theorem o_neq37 (x y : Operand) (ho : o.op = .binOp .neq 37 x y 37) (p : Pl) (hx : a.eval x = aggV p.C) (hy : a.eval y = aggV p.C) (h : K (a.put o.dst (.bool false)) w) : o.wp Try.prog a w K Q := by
  have he := equalPl w p p
  rw [(Pl.eq_iff p p).2 rfl] at he
  unfold Oper.wp execOp
  simp only [aggV] at he hx hy
  have hg : (eqGuard .neq 37 x y (.agg p.C.toArray) (.agg p.C.toArray)).run Try.prog w = .ok () w := by simp [eqGuard, Sem.run_bind]
  have hb : (binOp BinOp.neq 37 (.agg p.C.toArray) (.agg p.C.toArray)).run Try.prog w = .ok (.bool (!true)) w := by simp only [binOp, Sem.run_bind, he, Result.andThen_ok, Sem.run_pure]
  simp only [ho, hx, hy, Sem.run_bind, hg, hb, Result.andThen_ok]
  exact h
end


end Go.Proofs.Ytcfoebpbbmnleaa
