/-
  The walk of the document's Bytes.
-/
import Derived.Test.YtffflafalffifaaByu
namespace Go.Proofs.Ytffflafalffifaa
open Go.RowKit

theorem grownBy_trans {a b c : World} {row : Option Nat} (h : a.grownBy b row) (k : b.grownBy c row) : a.grownBy c row :=
  ⟨k.os.trans h.os, k.tape.trans h.tape, k.output.trans h.output, Nat.le_trans h.size k.size, fun i hi hr => (k.block i (Nat.lt_of_lt_of_le hi h.size) hr).trans (h.block i hi hr)⟩

/-- 'append(out, x)', x a byte that was just laid into a block of its own. -/
theorem wpApp8 {w : World} {ops : Array Oper} {rest : List Oper} {o : Oper} {a : Act} {Q : Exit → Act → World → Prop} (hgd : o.guard = none) (s x : Operand)
    (ho : o.op = .call { callee := .builtin .append, args := #[s, x], argTypes := #[42, 42] })
    (B : Nat) (v : Value) (l : List Int) (hs : a.eval s = v) (n : Int) (hx : a.eval x = .slice (some ⟨w.heap.size, 0, none⟩) 1 1)
    (hown : w.ownsRow B 5 1 v l.length (u8s l)) (hlen : l.length + 1 ≤ 140737488355328) (hbase : B ≤ w.heap.size)
    (h : ∀ v' w', w'.ownsRow B 5 1 v' (l.length + 1) (u8s (l ++ [n])) → w.grownBy w' v.ownBlock → wpList Try.prog ops Q rest (a.put o.dst v') w') : wpList Try.prog ops Q (o :: rest) a (w.alloc (.cells #[.int .u8 n] 5)) := by
  obtain ⟨i0, hi, hz0, hz1, hz2⟩ := info_parts Try.info5
  refine wpList_append_own _ hgd s x 42 ho B 5 i0 (.int .u8 0) 1 1 Try.underlying42 hi hz0 hz1 hz2 rfl (by decide) v _ _ hs (hown.alloc _) ⟨w.heap.size, 0, none⟩ 1 1 (u8s [n]) hx rfl ?_ (u8s_one _) (by unfold maxLen; omega) (by omega) (by simp; omega) ?_
  · intro j u hj
    match j, hj with
    | 0, hj => simp [u8s] at hj; subst hj; simp [Addr.add]
  intro v' w' g1 g2 _
  refine h v' w' ?_ (grownBy_trans (World.grownBy_alloc _ _ _) g2)
  rw [u8s_app]; exact g1

theorem flat_take (S : List (List Int)) (k : Nat) (hS : ∀ s ∈ S, Sec s) (hk : k ≤ S.length) : (S.take k).flatten.length = 64 * k := by
  induction k with
  | zero => simp
  | succ k ih =>
    rw [List.take_succ_eq_append_getElem (by omega), List.flatten_append, List.length_append, ih (by omega)]
    have := (hS _ (List.getElem_mem (show k < S.length by omega))).1
    simp [this]; omega

set_option maxHeartbeats 1000000 in
set_option maxRecDepth 100000 in
theorem r_bytes (r sg eg : Nat) (D : Dev) (w : World) (h : Rv w r sg eg D) : Calls Try.prog 35 #[P0 r] w fun e w' => ∃ v, e = .returned v ∧ w'.ownsRow w.heap.size 5 1 v D.S.flatten.length (u8s D.S.flatten) ∧ Kept [] w w' := by
  have hs1 := h.ok.s1
  have hS := h.ok.sec
  obtain ⟨cap, ecap, c0, c1, c2, c3, c4, cf, hb, hec⟩ := h.cells
  obtain ⟨ex, hb1, hb2, hb3, hb4⟩ := hb
  clear c1 c2 c3 c4 cf
  go_enter Try.func35, Try.ntmps35
  go_wp2_with fail
  go_loopw [3, 4] (fun v i wr => ∃ k : Nat, k ≤ D.S.length ∧ i = .int .i64 k ∧ wr.ownsRow w.heap.size 5 1 v (D.S.take k).flatten.length (u8s (D.S.take k).flatten) ∧ Hid (Kept [] w wr)) (fun _ i _ => D.S.length - (intOf i).toNat)
  case atStart => exact ⟨0, by omega, rfl, World.ownsRow_nil _ _ _ _, Kept.refl _ _⟩
  case round =>
    obtain ⟨k, hk, rfl, hown, hK⟩ := hrel
    have q0 := (unhide hK).cell c0 (by simp)
    by_cases hlt : k < D.S.length
    · have hfl := flat_take D.S k hS (by omega)
      have hsk := hS _ (List.getElem_mem hlt)
      have hl64 := hsk.1
      obtain ⟨wo, rfl⟩ : ∃ wo : World, wo = wr := ⟨_, rfl⟩
      go_wp2_with fail
      go_loopw [3, 5] (fun v i w2 => ∃ j : Nat, j ≤ 64 ∧ i = .int .i64 j ∧ w2.ownsRow w.heap.size 5 1 v ((D.S.take k).flatten ++ D.S[k].take j).length (u8s ((D.S.take k).flatten ++ D.S[k].take j)) ∧ Hid (Kept [] w w2)) (fun _ i _ => 64 - (intOf i).toNat)
      case atStart => exact ⟨0, by omega, rfl, by simpa using hown, hK⟩
      case round =>
        obtain ⟨j, hj, rfl, hown2, hK2⟩ := hrel
        have p0 := (unhide hK2).cell c0 (by simp)
        have hsz := (unhide hK2).size
        by_cases hj2 : j < 64
        · have hby : wr.cell? ⟨sg, k * 64 + j, none⟩ = some (.int .u8 (D.S[k][j]'(by omega))) := by
            refine (unhide hK2).cell ?_ (by simp)
            obtain ⟨h1, o1, e1, rr⟩ := (secs_block hS rfl hb1 cap hb2).lies (by intro e; simp [e] at hlt)
            cases e1
            have := rr k hlt j _ (by simp [u8s, hl64, hj2]; rfl)
            simpa using this
          have hll : ((D.S.take k).flatten ++ D.S[k].take j).length = 64 * k + j := by simp [hfl, hl64]; omega
          go_wp2_with (at_builtin; go_must (refine wpApp8 rfl (.tmp 23) (.tmp 33) rfl w.heap.size _ _ rfl _ rfl hown2 ?_ ?_ ?_))
          · rw [hll]; omega
          · exact hsz
          intro v1 w1 hown3 hg1
          have hK3 : Hid (Kept [] w w1) := kept_kept (B := w.heap.size) (unhide hK2) hg1 (Nat.le_refl _) (fun k e => (own_kind hown2 k e).1)
          clear hg1 hown2 hK2
          go_wp2_with fail
          go_roundw
          case rel =>
            refine ⟨j + 1, by omega, by go_num, ?_, hK3⟩
            have e1 : ((D.S.take k).flatten ++ D.S[k].take (j + 1)).length = 64 * k + j + 1 := by simp [hfl, hl64]; omega
            rw [e1]
            simpa using hown3
          case measure => simp [intOf]; omega
        · obtain rfl : j = 64 := by omega
          rw [show D.S[k].take 64 = D.S[k] from List.take_of_length_le (by omega)] at hown2
          go_wp2_with fail
          refine ⟨⟨k + 1, by omega, by go_num, ?_, hK2⟩, by simp [intOf]; omega⟩
          rw [List.take_succ_eq_append_getElem hlt, List.flatten_append, show [D.S[k]].flatten = D.S[k] by simp]
          exact hown2
    · obtain rfl : k = D.S.length := by omega
      rw [List.take_length] at hown
      go_wp2_with fail
      go_ret
      exact ⟨_, rfl, hown, unhide hK⟩

end Go.Proofs.Ytffflafalffifaa
