/-
  The walk of 'spoil': it writes over a row of the caller's own, and leaves all other memory as it was.
-/
import Derived.Test.YtaljkpndfjfgdaaKnown
import Derived.Maps.AppendAt
namespace Go.Proofs.Ytaljkpndfjfgdaa
open Go.RowKit

/-- 'append(out, x)' over bytes, and where the new slice lies. -/
theorem wpAppAt {w : World} {ops : Array Oper} {rest : List Oper} {o : Oper} {a : Act} {Q : Exit → Act → World → Prop} (hgd : o.guard = none) (s x : Operand)
    (ho : o.op = .call { callee := .builtin .append, args := #[s, x], argTypes := #[23, 23] })
    (B : Nat) (v : Value) (l : List Int) (hs : a.eval s = v) (ad : Addr) (m c : Nat) (hx : a.eval x = .slice (some ad) m c) (ls : List Int)
    (hown : w.ownsRow B 5 1 v l.length (u8s l)) (hsrc : Holds w (some ad) m c ls)
    (hlen : l.length + ls.length ≤ 140737488355328) (hbase : B ≤ w.heap.size)
    (h : ∀ v' w', Owns w' B v' (l ++ ls) → w.grownBy w' v.ownBlock → (v'.ownBlock = v.ownBlock ∨ v'.ownBlock = some w.heap.size) → wpList Try.prog ops Q rest (a.put o.dst v') w') : wpList Try.prog ops Q (o :: rest) a w := by
  obtain ⟨i0, hi, hz0, hz1, hz2⟩ := info_parts Try.info5
  obtain ⟨h1, _, _, h3⟩ := hsrc
  subst h1
  refine wpList_append_own_at w hgd s x 23 ho B 5 i0 (.int .u8 0) 1 1 Try.underlying23 hi hz0 hz1 hz2 rfl (by decide) v _ _ hs hown ad _ c (u8s ls) hx (by simp [u8s]) (h3 ad rfl) (u8s_one ls) (by unfold maxLen; omega) (by omega) hbase ?_
  intro v' w' g1 g2 _ g3
  exact h v' w' (owns_of (by rw [u8s_app]; exact g1)) g2 g3

/-- What one append inside spoil makes of what is kept. -/
theorem spoil_step {w wr w1 : World} {row : Option Nat} {v v1 : Value} {o : Obj} (h : w.grownBy wr row) (hv : v.ownBlock = row ∨ ∀ j, v.ownBlock = some j → w.heap.size ≤ j)
    (hg : (wr.alloc o).grownBy w1 v.ownBlock) (h1 : v1.ownBlock = v.ownBlock ∨ v1.ownBlock = some (wr.heap.size + 1)) :
    w.grownBy w1 row ∧ (v1.ownBlock = row ∨ ∀ j, v1.ownBlock = some j → w.heap.size ≤ j) := by
  have hs := h.size
  have hs1 := hg.size
  simp at hs1
  refine ⟨⟨hg.os.trans h.os, hg.tape.trans h.tape, hg.output.trans h.output, by omega, fun k hk hr => ?_⟩, ?_⟩
  · have hne : some k ≠ v.ownBlock := by
      rcases hv with e | e
      · rw [e]; exact hr
      · intro e2; have := e k e2.symm; omega
    rw [hg.block k (by simp; omega) hne, Below.heap_alloc _ _ _ (by omega)]
    exact h.block k hk hr
  · rcases h1 with e | e
    · rw [e]; exact hv
    · right; intro j hj; rw [e] at hj; simp at hj; omega

set_option maxHeartbeats 1000000 in
set_option maxRecDepth 100000 in
theorem spoil17 (B : Nat) (ao : Option Addr) (m c : Nat) (l : List Int) (w : World) (h : OwnS w B ao m c l) (hm : m ≤ 140737488355000) (hB : B ≤ w.heap.size) :
    Calls Try.prog 17 #[.slice ao m c] w fun e w' => e = .returned (.tuple #[]) ∧ w.grownBy w' (Value.slice ao m c).ownBlock := by
  go_enter Try.func17, Try.ntmps17
  go_wp2
  go_loopw [2] (fun i wr => ∃ (k : Nat) (l1 : List Int), k ≤ m ∧ i = .int .i64 k ∧ OwnS wr B ao m c l1 ∧ w.grownBy wr (Value.slice ao m c).ownBlock) (fun i _ => m - (intOf i).toNat)
  case atStart => exact ⟨0, l, by omega, rfl, h, World.grownBy.refl _ _⟩
  case round =>
    obtain ⟨k, l1, hk, rfl, hown, hg⟩ := hrel
    have hl1 := hide hown.1
    by_cases hlt : k < m
    · rcases Owns.shape hown.2 with ⟨hv, _⟩ | ⟨g, cap, hv, _, _, _, hcell⟩
      · cases hv; omega
      · obtain ⟨rfl, rfl⟩ : ao = some ⟨g, 0, none⟩ ∧ c = cap := by cases hv; exact ⟨rfl, rfl⟩
        obtain ⟨x, hx⟩ : ∃ x, (u8s l1)[k]? = some x := ⟨_, List.getElem?_eq_getElem (by rw [u8s_len, ← hl1.out]; exact hlt)⟩
        have hcx := hcell k x hx
        have h1 : wr.ownsRow B 5 1 (.slice (some ⟨g, 0, none⟩) m c) m (u8s l1) := by
          have := hown.2; unfold Owns at this; rw [← hown.1] at this; exact this
        have hfx : wr.frozen? ⟨g, k, none⟩ = false := h1.frozenAt k
        have hst : OwnS (wr.setCell ⟨g, k, none⟩ (.int .u8 90)) B (some ⟨g, 0, none⟩) m c (l1.set k 90) ∧ w.grownBy (wr.setCell ⟨g, k, none⟩ (.int .u8 90)) (some g) := by
          have h2 := h1.stored k (.int .u8 90)
          refine ⟨⟨by simpa using hown.1, owns_of (n := m) ?_⟩, grownBy_trans hg h2.2⟩
          have e : u8s (l1.set k 90) = (u8s l1).set k (.int .u8 90) := by simp [u8s, List.map_set]
          rw [e]; exact h2.1
        have hst1 := hide hst
        clear hst hcell hx hown hg hv h1
        go_wp2
        go_roundw
        case rel => exact ⟨k + 1, _, by omega, by go_num, (unhide hst1).1, (unhide hst1).2⟩
        case measure => simp [intOf]; omega
    · clear h hl1
      go_wp2
      go_loopw [0, 3] (fun v i wr2 => ∃ (k : Nat) (l2 : List Int), k ≤ 9 ∧ i = .int .i64 k ∧ Owns wr2 B v l2 ∧ l2.length ≤ m + k ∧ w.grownBy wr2 (Value.slice ao m c).ownBlock ∧ (v.ownBlock = (Value.slice ao m c).ownBlock ∨ ∀ j, v.ownBlock = some j → w.heap.size ≤ j)) (fun _ i _ => 9 - (intOf i).toNat)
      case atStart => exact ⟨0, l1, by omega, rfl, hown.2, by rw [← hown.1]; omega, hg, .inl rfl⟩
      case round =>
        clear hown hg
        obtain ⟨k2, l2, hk2, rfl, hown2, hl2, hg2, hv2⟩ := hrel
        have hsz := hg2.size
        by_cases hlt2 : k2 < 9
        · go_wp2_with (at_builtin; go_must (refine wpAppAt rfl _ _ rfl B _ _ rfl _ _ _ rfl _ (hown2.alloc _) (holds_built _ _ _) ?_ ?_ ?_))
          · simp; omega
          · simp; omega
          intro v1 w1 hown3 hg3 hv3
          have hstep := hide (spoil_step hg2 hv2 hg3 hv3)
          clear hg3 hv3 hown2 hg2 hv2
          go_wp2
          go_roundw
          case rel => exact ⟨k2 + 1, _, by omega, by go_num, hown3, by simp; omega, (unhide hstep).1, (unhide hstep).2⟩
          case measure => simp [intOf]; omega
        · go_wp2
          go_end0
          exact ⟨rfl, hg2⟩

end Go.Proofs.Ytaljkpndfjfgdaa
