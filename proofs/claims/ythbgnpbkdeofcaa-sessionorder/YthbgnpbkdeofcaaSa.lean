/-
  A session as plain data, and how it stands in memory; a row of bodies from some place of its block on.
-/
import Derived.Test.YthbgnpbkdeofcaaGx
import Derived.ArgAppend
import Derived.Maps.AppendAt
import Derived.Laws.AppendOwnNone
namespace Go.Proofs.Ythbgnpbkdeofcaa
open Go.RowKit

section
variable {l : Array Bool} {vs : Nat → Value} {w : World} {j : Nat} {v : Value} {St : (Nat → Bool) → (Nat → Value) → World → Prop}
theorem keepG (sp : List Nat) (hloc : ∀ b b' vs vs' W, (∀ i ∈ sp, b i = b' i ∧ vs i = vs' i) → St b vs W → St b' vs' W) (hj : j < l.size) (hn : sp.all (fun i => i != j) = true) (h : St (fun i => l.getD i false) vs w) : St (fun i => (l.setIfInBounds j true).getD i false) (fun i => if i = j then v else vs i) w := by
  refine hloc _ _ _ _ _ (fun i hi => ?_) h
  have hne : i ≠ j := by
    have := (List.all_eq_true.1 hn) i hi
    simpa using this
  exact ⟨by rw [getD_setD hj, if_neg hne], by rw [if_neg hne]⟩
theorem nextG (hj : j < l.size) (h : St (fun i => if i = j then true else l.getD i false) (fun i => if i = j then v else vs i) w) : St (fun i => (l.setIfInBounds j true).getD i false) (fun i => if i = j then v else vs i) w := by
  have e : (fun i => (l.setIfInBounds j true).getD i false) = (fun i => if i = j then true else l.getD i false) := by
    funext i
    rw [getD_setD hj]
  rw [e]
  exact h
end

/-- A slice of bodies in a block that nobody else writes, from the place off on. -/
def OwnO (W : World) (v : Value) (xs : List Value) : Prop :=
  (v = .slice none 0 0 ∧ xs = []) ∨ ∃ g off cap cur, v = .slice (some ⟨g, off, none⟩) xs.length cap ∧ W.heap[g]? = some (.cells cur 33 (0, 0)) ∧ xs.length ≤ cap ∧ cap ≤ maxLen ∧ off + cap ≤ cur.size ∧ ∀ j u, xs[j]? = some u → cur[off + j]? = some u
theorem OwnO.block {W : World} {v : Value} {xs : List Value} (h : OwnO W v xs) : ∀ k, v.ownBlock = some k → ∃ cs, W.heap[k]? = some (.cells cs 33 (0, 0)) := by
  intro k hk
  rcases h with ⟨rfl, _⟩ | ⟨g, off, cap, cur, rfl, h1, _⟩
  · cases hk
  · cases hk; exact ⟨cur, h1⟩
theorem OwnO.kept {W W' : World} {v : Value} {xs : List Value} {X : List Nat} (h : OwnO W v xs) (hk : Kept X W W') (hX : ∀ k, v.ownBlock = some k → k ∉ X) : OwnO W' v xs := by
  rcases h with h1 | ⟨g, off, cap, cur, rfl, h1, h2⟩
  · exact .inl h1
  · exact .inr ⟨g, off, cap, cur, rfl, hk.heap h1 (hX g rfl), h2⟩
theorem OwnO.sl {W : World} {v : Value} {xs : List Value} (h : OwnO W v xs) : ∃ ao c, v = .slice ao xs.length c ∧ xs.length ≤ c ∧ (ao = none → c = 0) := by
  rcases h with ⟨rfl, rfl⟩ | ⟨g, off, cap, cur, rfl, _, h2, _⟩
  · exact ⟨none, 0, rfl, Nat.le_refl _, fun _ => rfl⟩
  · exact ⟨_, cap, rfl, h2, fun e => by cases e⟩
theorem OwnO.cell {W : World} {ad : Addr} {c : Nat} {xs : List Value} (h : OwnO W (.slice (some ad) xs.length c) xs) {j : Nat} {u : Value} (hj : xs[j]? = some u) : W.cell? (ad.add j) = some u := by
  rcases h with ⟨h1, _⟩ | ⟨g, off, cap, cur, h1, h2, _, _, _, h3⟩
  · cases h1
  · cases h1
    rw [Addr.add_lit, cell_of_block h2]
    exact h3 j u hj
theorem own_O {W : World} {base : Nat} {v : Value} {xs : List Value} (h : W.ownsRow base 33 1 v xs.length xs) : OwnO W v xs := by
  rcases h.2 with ⟨h1, h2⟩ | ⟨g, cap, cur, h1, _, h3, h4, h5, h6, h7⟩
  · exact .inl ⟨h1, List.length_eq_zero_iff.1 h2⟩
  · refine .inr ⟨g, 0, cap, cur, h1, h3, h4, h5, by omega, fun j u hj => ?_⟩
    rw [Nat.zero_add, ← Array.getElem?_toList]
    rw [← h7] at hj
    rw [List.getElem?_take] at hj
    split at hj
    · exact hj
    · cases hj
theorem OwnO.nil (W : World) : OwnO W (.slice none 0 0) [] := .inl ⟨rfl, rfl⟩
theorem Try.sl30 : Try.prog.underlying 30 = some (.slice 33) := by kernel_rfl
theorem Try.info33 : (Try.prog.info? 33).map (fun i => (i.zero, i.size, i.bytes)) = some (some (.slice none 0 0), 1, 24) := by kernel_rfl
/-- What an append to such a row makes. -/
theorem run_appO (w : World) (ty : TypeId) (v : Value) (xs : List Value) (h : OwnO w v xs) (q : Nat) (c : Nat) (u : Value) (hu : w.cell? ⟨q, 0, none⟩ = some u) (hone : u.oneCell' = true) (hn : xs.length ≤ 100000) :
    ∃ v' w', (Builtin.append_ #[30, 30] ty #[v, .slice (some ⟨q, 0, none⟩) 1 c]).run Try.prog w = .ok v' w' ∧ OwnO w' v' (xs ++ [u]) ∧ Kept v.ownBlock.toList w w' ∧ ∀ k, v'.ownBlock = some k → v.ownBlock = some k ∨ w.heap.size ≤ k := by
  obtain ⟨i, hi, hz0, hz1, hz2⟩ := info_parts Try.info33
  have hmx : xs.length + 1 ≤ maxLen := by unfold maxLen; omega
  have hnews : ∀ j x, [u][j]? = some x → w.cell? ((⟨q, 0, none⟩ : Addr).add j) = some x := by
    intro j x hj
    cases j with
    | zero => simp at hj; subst hj; rw [Addr.add_lit]; exact hu
    | succ j => simp at hj
  have hones : ∀ x ∈ [u], x.oneCell' = true := by intro x hx; simp at hx; subst hx; exact hone
  rcases h with ⟨rfl, rfl⟩ | ⟨g, off, cap, cur, rfl, h1, h2, h3, h4, h5⟩
  · obtain ⟨v', w', hr, g2, g3, _, g5⟩ := run_append_own_at (P := Try.prog) w 0 30 ty 33 i _ 1 24 Try.sl30 hi hz0 hz1 hz2 rfl (by decide) (.slice none 0 0) 0 [] (World.ownsRow_nil _ _ _ _) ⟨q, 0, none⟩ 1 c [u] rfl hnews hones hmx (by omega) (Nat.zero_le _)
    exact ⟨v', w', hr, own_O (base := 0) g2, Kept.of_grown g3 (fun k e => by cases e), fun k hk => by
      rcases g5 with e | e
      · rw [← e]; exact .inl hk
      · rw [e] at hk; cases hk; exact .inr (Nat.le_refl _)⟩
  · by_cases hroom : xs.length + 1 ≤ cap
    · have hs : i.size = 1 := hz1
      have hr := run_append_room_cells (P := Try.prog) w 30 ty 33 i Try.sl30 hi g off xs.length cap ⟨q, 0, none⟩ 1 c [u] (by rw [hs]; rfl) hnews hones hroom (fun j hj => by
          rw [hs, cell_of_block h1, Array.getElem?_eq_getElem (by simp at hj; omega)]
          rfl) (fun j _ => by rw [hs]; exact frozen_of_block h1 _)
      rw [hs, Nat.mul_one] at hr
      refine ⟨_, _, hr, ?_, ?_, fun k hk => .inl hk⟩
      · have hcs : (w.setCells g (off + xs.length) [u]).heap[g]? = some (.cells (cur.setIfInBounds (off + xs.length) u) 33 (0, 0)) := heap_set h1
        refine .inr ⟨g, off, cap, _, by simp, hcs, by simpa using hroom, h3, by simpa using h4, fun j x hj => ?_⟩
        by_cases hjx : j < xs.length
        · rw [List.getElem?_append_left hjx] at hj
          rw [Array.getElem?_setIfInBounds_ne (by omega)]
          exact h5 j x hj
        · rw [List.getElem?_append_right (by omega)] at hj
          have hjl : j - xs.length = 0 := by have := (List.getElem?_eq_some_iff.1 hj).1; simp at this; omega
          rw [hjl] at hj
          simp at hj
          subst hj
          obtain rfl : j = xs.length := by omega
          rw [Array.getElem?_setIfInBounds_self_of_lt (by omega)]
      · exact (Kept.refl _ _).setCells [u] _ (by simp [Value.ownBlock])
    · obtain ⟨v', w', hr, g2, g3⟩ := run_append_arg_grows (P := Try.prog) w 30 ty 33 i _ 1 24 Try.sl30 hi hz0 hz1 hz2 rfl (by decide) ⟨g, off, none⟩ xs.length cap xs (by omega) (fun j u hj => by rw [Addr.add_lit, cell_of_block h1]; exact h5 j u hj) ⟨q, 0, none⟩ 1 c [u] rfl hnews (by omega) hmx (by omega)
      refine ⟨v', w', hr, own_O (base := 0) (by rw [List.length_append]; exact owns_base g2 (Nat.zero_le _)), Kept.of_grown g3 (fun k e => by cases e), fun k hk => ?_⟩
      rcases g2.2 with ⟨_, h0⟩ | ⟨g', cap', cur', e1, hge, hb, _⟩
      · omega
      · rw [e1] at hk
        cases hk
        exact .inr hge
/-- The rest of such a row, from the place k on. -/
def restV (ao : Option Addr) (n c k : Nat) : Value := .slice (ao.map fun ad => if c = k then ad else ad.add k) (n - k) (c - k)
theorem OwnO.rest {W : World} {ao : Option Addr} {c : Nat} {xs : List Value} (h : OwnO W (.slice ao xs.length c) xs) (k : Nat) (hk : k ≤ xs.length) : OwnO W (restV ao xs.length c k) (xs.drop k) := by
  rcases h with ⟨h1, h2⟩ | ⟨g, off, cap, cur, h1, h2, h3, h4, h5, h6⟩
  · injection h1 with h1 h1' h1''
    subst h1 h1'' h2
    exact .inl ⟨by unfold restV; simp, by simp⟩
  · cases h1
    by_cases e : c = k
    · refine .inr ⟨g, off, c - k, cur, by unfold restV; simp [e], h2, by simp; omega, by omega, by omega, fun j u hj => ?_⟩
      have hn : xs.length = k := by omega
      rw [List.drop_eq_nil_of_le (by omega)] at hj
      simp at hj
    · refine .inr ⟨g, off + k, c - k, cur, by unfold restV; simp [e, Addr.add_lit], h2, by simp; omega, by omega, by omega, fun j u hj => ?_⟩
      rw [List.getElem?_drop] at hj
      have := h6 _ u hj
      rw [← this]
      congr 1
      omega
theorem rest_own (ao : Option Addr) (n c k : Nat) : (restV ao n c k).ownBlock = (Value.slice ao n c).ownBlock := by
  cases ao with
  | none => rfl
  | some ad =>
    unfold restV Value.ownBlock
    simp
    split
    · rfl
    · simp only [Addr.add]
      split <;> rfl
section
variable {o : Oper} {a : Act} {w : World} {K : Act → World → Prop} {Q : Exit → Act → World → Prop}
theorem o_rest (x : Operand) (t : Nat) (ho : o.op = .slice 30 x (some (.tmp t)) none none) (ao : Option Addr) (n c k : Nat) (hn : n ≤ c) (hno : ao = none → c = 0) (hk : k ≤ n) (hx : a.eval x = .slice ao n c) (hy : a.eval (.tmp t) = .int .i64 k) (h : K (a.put o.dst (restV ao n c k)) w) : o.wp Try.prog a w K Q := by
  unfold Oper.wp execOp
  simp only [ho, hx, hy, Option.map_none, Option.map_some]
  cases ao with
  | none =>
    have hc := hno rfl
    subst hc
    obtain rfl : n = 0 := by omega
    obtain rfl : k = 0 := by omega
    simp [go_sem]
    exact h
  | some ad =>
    obtain ⟨g, off, sp⟩ := ad
    unfold restV at h
    simp at h
    by_cases e : c = k
    · simp [e] at h
      subst e
      obtain rfl : n = c := by omega
      simp [go_sem]
      simp at h
      exact h
    · simp [e] at h
      simp [go_sem, hk, e]
      exact h
theorem o_appO (s x : Operand) (ho : o.op = .call { callee := .builtin .append, args := #[s, x], argTypes := #[30, 30] }) (v : Value) (xs : List Value) (hs : a.eval s = v) (hown : OwnO w v xs) (q : Nat) (u : Value) (hx : a.eval x = .slice (some ⟨q, 0, none⟩) 1 1) (hq : Blk w q 33 [u]) (hone : u.oneCell' = true) (hn : xs.length ≤ 100000)
    (h : ∀ v' w', OwnO w' v' (xs ++ [u]) → Kept v.ownBlock.toList w w' → (∀ k, v'.ownBlock = some k → v.ownBlock = some k ∨ w.heap.size ≤ k) → K (a.put o.dst v') w') : o.wp Try.prog a w K Q := by
  obtain ⟨v', w', hr, h2, h3, h5⟩ := run_appO w o.type v xs hown q 1 u (fits_cell hq 0 _ rfl) hone hn
  unfold Oper.wp execOp
  simp only [ho, resolve, invoke, builtin, Sem.run_bind, Sem.run_pure, Result.andThen_ok, List.map_toArray, List.map_cons, List.map_nil, hs, hx, hr]
  exact h v' w' h2 h3 h5
theorem o_bsS (x : Operand) (ho : o.op = .buildSlice 30 1 #[(0, x)]) (ao : Option Addr) (m c : Nat) (hx : a.eval x = .slice ao m c) (h : K (a.put o.dst (.slice (some ⟨w.heap.size, 0, none⟩) 1 1)) (w.alloc (.cells [Value.slice ao m c].toArray 33))) : o.wp Try.prog a w K Q := by
  have hr : (Instr.buildSlice 30 1 #[(0, Value.slice ao m c)]).run Try.prog w = .ok (.slice (some ⟨w.heap.size, 0, none⟩) 1 1) (w.alloc (.cells [Value.slice ao m c].toArray 33)) := by kernel_rfl
  unfold Oper.wp execOp
  simp only [ho, List.map_toArray, List.map_cons, List.map_nil, hx, Sem.run_bind, hr, Result.andThen_ok]
  exact h
end

/-- A session: who, with whom, in which view; all that was ever sent; how many of it are known to be got, how many were told; how many it got; is an answer owed? -/
structure Ps where
  me : Int
  oth : Int
  view : Int
  sent : List (List Int)
  known : Nat
  told : Nat
  got : Int
  owes : Bool
structure Ps.Ok (P : Ps) : Prop where
  ne : P.me ≠ P.oth
  known : P.known ≤ P.sent.length
  told : P.told ≤ P.sent.length
  got : 0 ≤ P.got ∧ P.got ≤ 4611686018427387904
  many : P.sent.length ≤ 1000
  small : ∀ bs ∈ P.sent, bs.length ≤ 256
  byte : ∀ bs ∈ P.sent, ∀ x ∈ bs, 0 ≤ x ∧ x < 256
def Ps.C (P : Ps) (v : Value) : List Value := [.int .i64 P.me, .int .i64 P.oth, .int .i64 P.view, .int .i64 P.known, .int .i64 P.told, .int .i64 P.got, .bool P.owes, v]
/-- A session stands in memory: what waits are ws. -/
structure Sx (W : World) (b : Nat) (v : Value) (ws : List Value) (P : Ps) : Prop where
  ok : P.Ok
  head : Blk W b 68 (P.C v)
  row : OwnO W v ws
  len : P.known + ws.length = P.sent.length
  body : ∀ (i : Nat) u bs, ws[i]? = some u → P.sent[P.known + i]? = some bs → Bod W u bs
theorem Sx.kept {W W' : World} {b : Nat} {v : Value} {ws : List Value} {P : Ps} {X : List Nat} (h : Sx W b v ws P) (hk : Kept X W W') (hb : b ∉ X) (hv : ∀ k, v.ownBlock = some k → k ∉ X) (hw : ∀ u ∈ ws, ∀ k, u.ownBlock = some k → k ∉ X) : Sx W' b v ws P :=
  ⟨h.ok, h.head.kept hk hb, h.row.kept hk hv, h.len, fun i u bs hu hs => (h.body i u bs hu hs).kept hk (hw u (List.mem_of_getElem? hu))⟩
theorem Sx.kept0 {W W' : World} {b : Nat} {v : Value} {ws : List Value} {P : Ps} (h : Sx W b v ws P) (hk : Kept [] W W') : Sx W' b v ws P := h.kept hk (by simp) (by simp) (by simp)
theorem Sx.bod {W : World} {b : Nat} {v : Value} {ws : List Value} {P : Ps} (h : Sx W b v ws P) {u : Value} (hu : u ∈ ws) : ∃ bs, Bod W u bs := by
  obtain ⟨i, hi⟩ := List.getElem?_of_mem hu
  have hlt := (List.getElem?_eq_some_iff.1 hi).1
  have := h.len
  exact ⟨_, h.body i u _ hi (List.getElem?_eq_getElem (by omega))⟩
/-- By the types of the blocks: what else is written touches no session. -/
theorem Sx.keptT {W W' : World} {b : Nat} {v : Value} {ws : List Value} {P : Ps} {X : List Nat} (h : Sx W b v ws P) (hk : Kept X W W') (hX : ∀ k ∈ X, ∀ cs T p, W.heap[k]? = some (Obj.cells cs T p) → T ≠ 68 ∧ T ≠ 33 ∧ T ≠ 5) : Sx W' b v ws P := by
  refine h.kept hk (fun hm => (hX b hm _ _ _ h.head).1 rfl) (fun k e hm => ?_) (fun u hu k e hm => ?_)
  · obtain ⟨cs, hc⟩ := h.row.block k e
    exact (hX k hm _ _ _ hc).2.1 rfl
  · obtain ⟨bs, hb⟩ := h.bod hu
    obtain ⟨cs, hc⟩ := hb.block k e
    exact (hX k hm _ _ _ hc).2.2 rfl
theorem Sx.lt {W : World} {b : Nat} {v : Value} {ws : List Value} {P : Ps} (h : Sx W b v ws P) : b < W.heap.size ∧ (∀ k, v.ownBlock = some k → k < W.heap.size) ∧ ∀ u ∈ ws, ∀ k, u.ownBlock = some k → k < W.heap.size := by
  refine ⟨h.head.lt, fun k e => ?_, fun u hu k e => ?_⟩
  · obtain ⟨cs, hc⟩ := h.row.block k e
    exact lt_of_block hc
  · obtain ⟨bs, hb⟩ := h.bod hu
    obtain ⟨cs, hc⟩ := hb.block k e
    exact lt_of_block hc
/-- The blocks that a session writes are no bodies. -/
theorem Sx.away {W : World} {b : Nat} {v : Value} {ws : List Value} {P : Ps} (h : Sx W b v ws P) {u : Value} {bs : List Int} (hu : Bod W u bs) : ∀ k, u.ownBlock = some k → k ∉ b :: v.ownBlock.toList := by
  intro k hk
  obtain ⟨cs, hc⟩ := hu.block k hk
  simp only [List.mem_cons, Option.mem_toList, not_or]
  refine ⟨?_, ?_⟩
  · rintro rfl
    have := h.head
    unfold Blk at this
    rw [this] at hc
    cases hc
  · intro e
    obtain ⟨cs', hc'⟩ := h.row.block k e
    rw [hc'] at hc
    cases hc
theorem Sx.hv {W : World} {b : Nat} {v : Value} {ws : List Value} {P : Ps} (h : Sx W b v ws P) : ∀ k, v.ownBlock = some k → k ≠ b := by
  intro k e he
  subst he
  obtain ⟨cs', hc'⟩ := h.row.block k e
  have := h.head
  unfold Blk at this
  rw [hc'] at this
  cases this
theorem Sx.cells {W : World} {b : Nat} {v : Value} {ws : List Value} {P : Ps} (h : Sx W b v ws P) : W.cell? ⟨b, 0, none⟩ = some (.int .i64 P.me) ∧ W.cell? ⟨b, 1, none⟩ = some (.int .i64 P.oth) ∧ W.cell? ⟨b, 2, none⟩ = some (.int .i64 P.view) ∧ W.cell? ⟨b, 3, none⟩ = some (.int .i64 P.known) ∧ W.cell? ⟨b, 4, none⟩ = some (.int .i64 P.told) ∧ W.cell? ⟨b, 5, none⟩ = some (.int .i64 P.got) ∧ W.cell? ⟨b, 6, none⟩ = some (.bool P.owes) ∧ W.cell? ⟨b, 7, none⟩ = some v :=
  ⟨fits_cell h.head 0 _ rfl, fits_cell h.head 1 _ rfl, fits_cell h.head 2 _ rfl, fits_cell h.head 3 _ rfl, fits_cell h.head 4 _ rfl, fits_cell h.head 5 _ rfl, fits_cell h.head 6 _ rfl, fits_cell h.head 7 _ rfl⟩

end Go.Proofs.Ythbgnpbkdeofcaa
