/-
  A row of records that one has for oneself, from some place of its block on.
-/
import Derived.Test.YtmeajhdhiebkdaaDoorGx
import Derived.ArgAppend
import Derived.Maps.AppendAt
namespace Go.Proofs.YtmeajhdhiebkdaaDoor
set_option maxRecDepth 100000
open Go.RowKit

/-- A slice of records in a block that nobody else writes, from the place off on. -/
structure OwnO (W : World) (v : Value) (n : Nat) (xs : List Value) : Prop where
  len : xs.length = n * 101
  lie : (v = .slice none 0 0 ∧ n = 0) ∨ ∃ g off cap cur, v = .slice (some ⟨g, off, none⟩) n cap ∧ W.heap[g]? = some (.cells cur 45 (0, 0)) ∧ n ≤ cap ∧ cap ≤ maxLen ∧ off + cap * 101 ≤ cur.size ∧ ∀ j u, xs[j]? = some u → cur[off + j]? = some u
theorem OwnO.block {W : World} {v : Value} {n : Nat} {xs : List Value} (h : OwnO W v n xs) : ∀ k, v.ownBlock = some k → ∃ cs, W.heap[k]? = some (.cells cs 45 (0, 0)) := by
  intro k hk
  rcases h.lie with ⟨rfl, _⟩ | ⟨g, off, cap, cur, rfl, h1, _⟩
  · cases hk
  · cases hk; exact ⟨cur, h1⟩
theorem OwnO.kept {W W' : World} {v : Value} {n : Nat} {xs : List Value} {X : List Nat} (h : OwnO W v n xs) (hk : Kept X W W') (hX : ∀ k, v.ownBlock = some k → k ∉ X) : OwnO W' v n xs := by
  refine ⟨h.len, ?_⟩
  rcases h.lie with h1 | ⟨g, off, cap, cur, rfl, h1, h2⟩
  · exact .inl h1
  · exact .inr ⟨g, off, cap, cur, rfl, hk.heap h1 (hX g rfl), h2⟩
theorem OwnO.sl {W : World} {v : Value} {n : Nat} {xs : List Value} (h : OwnO W v n xs) : ∃ ao c, v = .slice ao n c ∧ n ≤ c ∧ (ao = none → c = 0) := by
  rcases h.lie with ⟨rfl, rfl⟩ | ⟨g, off, cap, cur, rfl, _, h2, _⟩
  · exact ⟨none, 0, rfl, Nat.le_refl _, fun _ => rfl⟩
  · exact ⟨_, cap, rfl, h2, fun e => by cases e⟩
theorem OwnO.cell {W : World} {ad : Addr} {n c : Nat} {xs : List Value} (h : OwnO W (.slice (some ad) n c) n xs) {j : Nat} {u : Value} (hj : xs[j]? = some u) : W.cell? (ad.add j) = some u := by
  rcases h.lie with ⟨h1, _⟩ | ⟨g, off, cap, cur, h1, h2, _, _, _, h3⟩
  · cases h1
  · cases h1
    rw [Addr.add_lit, cell_of_block h2]
    exact h3 j u hj
theorem OwnO.at {W : World} {g off n c : Nat} {xs : List Value} (h : OwnO W (.slice (some ⟨g, off, none⟩) n c) n xs) : W.rangeAt g off xs := fun j u hj => by
  have := h.cell hj
  rw [Addr.add_lit] at this
  exact this
theorem own_O {W : World} {base n : Nat} {v : Value} {xs : List Value} (h : W.ownsRow base 45 101 v n xs) : OwnO W v n xs := by
  refine ⟨h.1, ?_⟩
  rcases h.2 with h1 | ⟨g, cap, cur, h1, _, h3, h4, h5, h6, h7⟩
  · exact .inl h1
  · refine .inr ⟨g, 0, cap, cur, h1, h3, h4, h5, by omega, fun j u hj => ?_⟩
    rw [Nat.zero_add, ← Array.getElem?_toList]
    rw [← h7] at hj
    rw [List.getElem?_take] at hj
    split at hj
    · exact hj
    · cases hj
theorem OwnO.nil (W : World) : OwnO W (.slice none 0 0) 0 [] := ⟨rfl, .inl ⟨rfl, rfl⟩⟩
theorem Tryd.sl37 : Tryd.prog.underlying 37 = some (.slice 45) := by kernel_rfl
theorem Tryd.info45 : (Tryd.prog.info? 45).map (fun i => (i.zero, i.size, i.bytes)) = some (some (.agg ((List.replicate 5 (Value.int .i64 0) ++ List.replicate 96 (Value.int .u8 0)).toArray)), 101, 136) := by kernel_rfl
/-- What an append to such a row makes. -/
theorem run_appO (w : World) (ty : TypeId) (v : Value) (n : Nat) (xs : List Value) (h : OwnO w v n xs) (ad : Addr) (c : Nat) (news : List Value) (hl : news.length = 101) (hnews : ∀ j u, news[j]? = some u → w.cell? (ad.add j) = some u) (hone : ∀ u ∈ news, u.oneCell' = true) (hn : n ≤ 1000) :
    ∃ v' w', (Builtin.append_ #[37, 37] ty #[v, .slice (some ad) 1 c]).run Tryd.prog w = .ok v' w' ∧ OwnO w' v' (n + 1) (xs ++ news) ∧ Kept v.ownBlock.toList w w' ∧ ∀ k, v'.ownBlock = some k → v.ownBlock = some k ∨ w.heap.size ≤ k := by
  obtain ⟨i, hi, hz0, hz1, hz2⟩ := info_parts Tryd.info45
  have hmx : n + 1 ≤ maxLen := by unfold maxLen; omega
  rcases h.lie with ⟨rfl, rfl⟩ | ⟨g, off, cap, cur, rfl, h1, h2, h3, h4, h5⟩
  · have hx : xs = [] := List.length_eq_zero_iff.1 (by rw [h.len])
    subst hx
    obtain ⟨v', w', hr, g2, g3, _, g5⟩ := run_append_own_at (P := Tryd.prog) w 0 37 ty 45 i _ 101 136 Tryd.sl37 hi hz0 hz1 hz2 rfl (by decide) (.slice none 0 0) 0 [] (World.ownsRow_nil _ _ _ _) ad 1 c news (by omega) hnews hone hmx (by omega) (Nat.zero_le _)
    exact ⟨v', w', hr, own_O g2, Kept.of_grown g3 (fun k e => by cases e), fun k hk => by
      rcases g5 with e | e
      · rw [← e]; exact .inl hk
      · rw [e] at hk; cases hk; exact .inr (Nat.le_refl _)⟩
  · by_cases hroom : n + 1 ≤ cap
    · have hs : i.size = 101 := hz1
      have hr := run_append_room_cells (P := Tryd.prog) w 37 ty 45 i Tryd.sl37 hi g off n cap ad 1 c news (by rw [hs, hl]) hnews hone hroom (fun j hj => by
          rw [hs, cell_of_block h1, Array.getElem?_eq_getElem (by rw [hl] at hj; have : (n + 1) * 101 ≤ cap * 101 := Nat.mul_le_mul_right _ hroom; omega)]
          rfl) (fun j _ => by rw [hs]; exact frozen_of_block h1 _)
      rw [hs] at hr
      refine ⟨_, _, hr, ?_, ?_, fun k hk => .inl hk⟩
      · have hcs : (w.setCells g (off + n * 101) news).heap[g]? = some (.cells ((cur.toList.take (off + n * 101)) ++ news ++ (cur.toList.drop (off + n * 101 + 101))).toArray 45 (0, 0)) := by
          have hlen : (n + 1) * 101 ≤ cap * 101 := Nat.mul_le_mul_right _ hroom
          refine heap_sets news w (off + n * 101) (cur.toList.take (off + n * 101)) ((cur.toList.drop (off + n * 101)).take 101) (cur.toList.drop (off + n * 101 + 101)) ?_ ?_ ?_
          · rw [h1]
            congr 2
            have e : cur.toList.take (off + n * 101) ++ (cur.toList.drop (off + n * 101)).take 101 ++ cur.toList.drop (off + n * 101 + 101) = cur.toList := by
              have e2 : cur.toList.drop (off + n * 101 + 101) = (cur.toList.drop (off + n * 101)).drop 101 := by rw [List.drop_drop]
              rw [List.append_assoc, e2, List.take_append_drop, List.take_append_drop]
            rw [e]
          · rw [List.length_take, Array.length_toList]; omega
          · rw [List.length_take, List.length_drop, Array.length_toList, hl]; omega
        have hlen : (n + 1) * 101 ≤ cap * 101 := Nat.mul_le_mul_right _ hroom
        refine ⟨by rw [List.length_append, h.len, hl]; omega, .inr ⟨g, off, cap, _, rfl, hcs, hroom, h3, ?_, fun j u hj => ?_⟩⟩
        · simp only [List.size_toArray, List.length_append, List.length_take, List.length_drop, Array.length_toList, hl]
          omega
        · rw [List.getElem?_toArray]
          have hx := h.len
          by_cases hjx : j < xs.length
          · rw [List.getElem?_append_left hjx] at hj
            have h8 := h5 j u hj
            rw [List.append_assoc, List.getElem?_append_left (by rw [List.length_take, Array.length_toList]; omega), List.getElem?_take_of_lt (by omega), Array.getElem?_toList]
            exact h8
          · rw [List.getElem?_append_right (by omega)] at hj
            have hjl : j - xs.length < 101 := by have := (List.getElem?_eq_some_iff.1 hj).1; omega
            rw [List.append_assoc, List.getElem?_append_right (by rw [List.length_take, Array.length_toList]; omega), List.getElem?_append_left (by rw [List.length_take, Array.length_toList]; omega)]
            rw [← hj]
            congr 1
            rw [List.length_take, Array.length_toList]
            omega
      · exact (Kept.refl _ _).setCells news _ (by simp [Value.ownBlock])
    · obtain ⟨v', w', hr, g2, g3⟩ := run_append_arg_grows (P := Tryd.prog) w 37 ty 45 i _ 101 136 Tryd.sl37 hi hz0 hz1 hz2 rfl (by decide) ⟨g, off, none⟩ n cap xs h.len (fun j u hj => by rw [Addr.add_lit, cell_of_block h1]; exact h5 j u hj) ad 1 c news (by omega) hnews (by omega) hmx (by omega)
      refine ⟨v', w', hr, own_O g2, Kept.of_grown g3 (fun k e => by cases e), fun k hk => ?_⟩
      rcases g2.2 with ⟨_, h0⟩ | ⟨g', cap', cur', e1, hge, hb, _⟩
      · omega
      · rw [e1] at hk
        cases hk
        exact .inr hge
/-- The rest of such a row, from the place k on. -/
def restV (ao : Option Addr) (n c k : Nat) : Value := .slice (ao.map fun ad => if c = k then ad else ad.add (k * 101)) (n - k) (c - k)
theorem OwnO.rest {W : World} {ao : Option Addr} {n c : Nat} {xs : List Value} (h : OwnO W (.slice ao n c) n xs) (k : Nat) (hk : k ≤ n) : OwnO W (restV ao n c k) (n - k) (xs.drop (k * 101)) := by
  have hm : k * 101 ≤ n * 101 := Nat.mul_le_mul_right _ hk
  refine ⟨by rw [List.length_drop, h.len, Nat.sub_mul], ?_⟩
  rcases h.lie with ⟨h1, h2⟩ | ⟨g, off, cap, cur, h1, h2, h3, h4, h5, h6⟩
  · cases h1
    exact .inl ⟨by unfold restV; simp, by omega⟩
  · cases h1
    have hc : k * 101 ≤ c * 101 := Nat.mul_le_mul_right _ (by omega)
    have hcs : (c - k) * 101 = c * 101 - k * 101 := Nat.sub_mul _ _ _
    by_cases e : c = k
    · refine .inr ⟨g, off, c - k, cur, by unfold restV; simp [e], h2, by omega, by omega, by omega, fun j u hj => ?_⟩
      have hn : n = k := by omega
      rw [List.drop_eq_nil_of_le (by rw [h.len, hn]; exact Nat.le_refl _)] at hj
      simp at hj
    · refine .inr ⟨g, off + k * 101, c - k, cur, by unfold restV; simp [e, Addr.add_lit], h2, by omega, by omega, by omega, fun j u hj => ?_⟩
      rw [List.getElem?_drop] at hj
      have := h6 _ u hj
      rw [← this]
      congr 1
      omega
theorem rest_own (ao : Option Addr) (n c k : Nat) : (restV ao n c k).ownBlock = (Value.slice ao n c).ownBlock := by
  cases ao with
  | none => rfl
  | some ad =>
    unfold restV Value.ownBlock
    simp
    split
    · rfl
    · simp only [Addr.add]
      split <;> rfl
section
variable {o : Oper} {a : Act} {w : World} {K : Act → World → Prop} {Q : Exit → Act → World → Prop}
theorem o_rest (x : Operand) (t : Nat) (ho : o.op = .slice 37 x (some (.tmp t)) none none) (ao : Option Addr) (n c k : Nat) (hn : n ≤ c) (hno : ao = none → c = 0) (hk : k ≤ n) (hx : a.eval x = .slice ao n c) (hy : a.eval (.tmp t) = .int .i64 k) (h : K (a.put o.dst (restV ao n c k)) w) : o.wp Tryd.prog a w K Q := by
  unfold Oper.wp execOp
  simp only [ho, hx, hy, Option.map_none, Option.map_some]
  cases ao with
  | none =>
    have hc := hno rfl
    subst hc
    obtain rfl : n = 0 := by omega
    obtain rfl : k = 0 := by omega
    simp [go_sem]
    exact h
  | some ad =>
    obtain ⟨g, off, sp⟩ := ad
    unfold restV at h
    simp at h
    by_cases e : c = k
    · simp [e] at h
      subst e
      obtain rfl : n = c := by omega
      simp [go_sem]
      simp at h
      exact h
    · simp [e] at h
      simp [go_sem, hk, e]
      exact h
end

end Go.Proofs.YtmeajhdhiebkdaaDoor
