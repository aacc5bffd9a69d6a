/-
  What the document's Of needs.
-/
import Derived.Test.YtffflafalffifaaStda
import Derived.Test.YtffflafalffifaaRnew
import Derived.Test.YtffflafalffifaaOf
namespace Go.Proofs.Ytffflafalffifaa.K
open Go.RowKit

/-- A region that draws its order, by its table; its last operation apart. -/
theorem wpAny_tq1 {ops : Array Oper} {Q : Exit → Act → World → Prop} {a0 : Act} {w0 : World} (n : Nat) (hn : ops.size = n + 1) (hok : prefG ops n = true) (us : List (Option Value)) (hu : us.length = n) (hg : guardsQ ops us = true)
    (hsl : ops.all (fun o => match o.dst with | none => true | some t => decide (t < a0.tmps.size)) = true)
    (hop : ∀ (j : Nat) (o : Oper), j < n → skipQ us j = false → ops[j]? = some o → ∀ a w, (∀ t : Nat, (ops.toList.take n).all (fun p => p.dst != some t) = true → a.eval (.tmp t) = a0.eval (.tmp t)) →
      (∀ (i t : Nat), o.after.any (fun e => Region.binds .any e && e.on == i) = true → ops[i]?.bind (·.dst) = some t → tq us i (a.eval (.tmp t)) w) → Kept [] w0 w →
      o.wp Try.prog a w (fun a' w' => ∃ v, a' = a.put o.dst v ∧ tq us j v w' ∧ Kept [] w w' ∧ ∀ i u, i < n → i ≠ j → tq us i u w → True) Q)
    (hQ : ∀ w, Kept [] w0 w → wpAny Try.prog .any ops Q 1 (lists n (n + 1)) (putAll a0 (ops.toList.take n) (valsQ us)) w) :
    wpAny Try.prog .any ops Q ops.size (Array.replicate ops.size false) a0 w0 := by
  refine wpAny_prefS n 1 (by omega) hok (tq us) (fun _ _ _ _ => True) (skipQ us) (fun j o i b _ ho hg' => guardsQ_some hg j o i b ho hg') (fun j o _ ho hg' => guardsQ_none hg j o ho hg') (fun j w h => skipQ_undef w h) (fun _ _ _ _ => trivial) (tq_kept us) hsl hop ?_
  intro vs w hlen hv _ hk
  obtain rfl := vs_tq hv (by omega)
  exact hQ w hk
section
variable {o : Oper} {a : Act} {w : World} {K : Act → World → Prop} {Q : Exit → Act → World → Prop}
theorem o_store2 (x y : Operand) (ho : o.op = .store 2 x y) (p : Addr) (v : Int) (u : Value) (hx : a.eval x = .pointer (some p)) (hy : a.eval y = .int .i64 v) (hc : w.cell? p = some u) (hf : w.frozen? p = false) (h : K (a.put o.dst undef) (w.setCell p (.int .i64 v))) : o.wp Try.prog a w K Q := by
  unfold Oper.wp execOp
  simp only [ho, hx, hy]
  simp [go_sem, hc, hf]
  exact h
theorem o_store5 (x y : Operand) (ho : o.op = .store 5 x y) (p : Addr) (v : Int) (u : Value) (hx : a.eval x = .pointer (some p)) (hy : a.eval y = .int .u8 v) (hc : w.cell? p = some u) (hf : w.frozen? p = false) (h : K (a.put o.dst undef) (w.setCell p (.int .u8 v))) : o.wp Try.prog a w K Q := by
  unfold Oper.wp execOp
  simp only [ho, hx, hy]
  simp [go_sem, hc, hf]
  exact h
theorem o_idx43 (x y : Operand) (ho : o.op = .indexAddr 43 x y) (g off m c k : Nat) (hk : k < m) (hx : a.eval x = .slice (some ⟨g, off, none⟩) m c) (hy : a.eval y = .int .i64 k) (h : K (a.put o.dst (.pointer (some ⟨g, off + k, none⟩))) w) : o.wp Try.prog a w K Q := by
  unfold Oper.wp execOp
  simp only [ho, hx, hy]
  simp [go_sem, hk]
  exact h
theorem o_idx42 (x y : Operand) (ho : o.op = .indexAddr 42 x y) (g off m c k : Nat) (hk : k < m) (hx : a.eval x = .slice (some ⟨g, off, none⟩) m c) (hy : a.eval y = .int .i64 k) (h : K (a.put o.dst (.pointer (some ⟨g, off + k, none⟩))) w) : o.wp Try.prog a w K Q := by
  unfold Oper.wp execOp
  simp only [ho, hx, hy]
  simp [go_sem, hk]
  exact h
theorem o_idxS (x y : Operand) (ho : o.op = .indexAddr 36 x y) (g m c k : Nat) (hk : k < m) (hx : a.eval x = .slice (some ⟨g, 0, none⟩) m c) (hy : a.eval y = .int .i64 k) (h : K (a.put o.dst (.pointer (some ⟨g, k * 64, none⟩))) w) : o.wp Try.prog a w K Q := by
  unfold Oper.wp execOp
  simp only [ho, hx, hy]
  simp [go_sem, hk]
  exact h
theorem o_idx38 (x y : Operand) (ho : o.op = .indexAddr 38 x y) (g off k : Nat) (hk0 : k < 64) (hx : a.eval x = .pointer (some ⟨g, off, none⟩)) (hy : a.eval y = .int .i64 k) (h : K (a.put o.dst (.pointer (some ⟨g, off + k, none⟩))) w) : o.wp Try.prog a w K Q := by
  have hk : (k : Int) < 64 := by omega
  unfold Oper.wp execOp
  simp only [ho, hx, hy]
  simp [go_sem, hk]
  exact h
theorem o_quo64 (x : Operand) (ho : o.op = .binOp .quo 3 x (.const (.int .i64 64)) 3) (c : Int) (hc : 0 ≤ c ∧ c ≤ 1000000) (hx : a.eval x = .int .i64 c) (h : K (a.put o.dst (.int .i64 (c / 64))) w) : o.wp Try.prog a w K Q := by
  have h1 : c.tdiv 64 = c / 64 := Int.tdiv_eq_ediv_of_nonneg hc.1
  have hw : IntKind.i64.wrap (c / 64) = c / 64 := by rw [IntKind.wrap_i64]; omega
  unfold Oper.wp execOp
  simp only [ho, hx]
  simp [go_sem, h1, hw]
  exact h
theorem o_rem64 (x : Operand) (ho : o.op = .binOp .rem 3 x (.const (.int .i64 64)) 3) (c : Int) (hc : 0 ≤ c ∧ c ≤ 1000000) (hx : a.eval x = .int .i64 c) (h : K (a.put o.dst (.int .i64 (c % 64))) w) : o.wp Try.prog a w K Q := by
  have h1 : c.tmod 64 = c % 64 := Int.tmod_eq_emod_of_nonneg hc.1
  unfold Oper.wp execOp
  simp only [ho, hx]
  simp [go_sem, h1]
  exact h
end
/-- The document's device while its epochs are laid. -/
def eDev (n : Nat) (eps : List Int) (k : Nat) : Dev := ⟨noughts n, eps.length, eps.take k ++ List.replicate (8 - k) 0, 0, false, 0, false⟩
theorem eDev_zero (n : Nat) (eps : List Int) : eDev n eps 0 = newDev n eps.length := by simp [eDev, newDev]
theorem eDev_succ (n : Nat) (eps : List Int) (k : Nat) (hk : k < eps.length) (h8 : eps.length ≤ 8) : { eDev n eps k with E := (eDev n eps k).E.set k eps[k] } = eDev n eps (k + 1) := by
  simp only [eDev]
  congr 1
  have hl : (eps.take k).length = k := by simp; omega
  rw [List.set_append_right _ _ (by omega), hl, Nat.sub_self, show 8 - k = (8 - (k + 1)) + 1 by omega, List.replicate_succ, List.set_cons_zero, List.take_succ_eq_append_getElem hk, List.append_assoc]
  rfl
/-- The document's device while its bytes are laid. -/
def bDev (n : Nat) (l eps : List Int) (k : Nat) : Dev := ⟨chunks n (l.take k ++ List.replicate (n * 64 - k) 0), eps.length, eps ++ List.replicate (8 - eps.length) 0, 0, false, 0, false⟩
theorem chunk_noughts (n i : Nat) (h : i < n) : chunk (List.replicate (n * 64) 0) i = nought := by
  have : min 64 (n * 64 - i * 64) = 64 := by omega
  simp [chunk, nought, this]
theorem chunks_noughts (n : Nat) : chunks n (List.replicate (n * 64) 0) = noughts n := by
  apply List.ext_getElem (by simp [chunks_len, noughts_len])
  intro i h1 h2
  rw [chunks_len] at h1
  simp [chunks, noughts, chunk_noughts n i h1]
theorem chunks_flat : ∀ (n : Nat) (L : List Int), n * 64 ≤ L.length → (chunks n L).flatten = L.take (n * 64) := by
  intro n
  induction n with
  | zero => intro L _; simp [chunks]
  | succ n ih =>
    intro L hL
    rw [chunks_succ, List.flatten_append, ih L (by omega)]
    simp only [List.flatten_cons, List.flatten_nil, List.append_nil, chunk]
    rw [← List.take_add]
    congr 1
    omega
theorem bDev_zero (n : Nat) (l eps : List Int) : bDev n l eps 0 = eDev n eps eps.length := by
  simp [bDev, eDev, chunks_noughts]
theorem bDev_end (n : Nat) (l eps : List Int) (hl : l.length = n * 64) : bDev n l eps (n * 64) = ofDev l eps := by
  have : l.take (n * 64) = l := List.take_of_length_le (by omega)
  simp [bDev, ofDev, this, hl]
theorem mid_flat (n : Nat) (l : List Int) (k : Nat) (hk : k ≤ n * 64) (hl : l.length = n * 64) : (chunks n (l.take k ++ List.replicate (n * 64 - k) 0)).flatten = l.take k ++ List.replicate (n * 64 - k) 0 := by
  rw [chunks_flat _ _ (by simp; omega), List.take_of_length_le (by simp; omega)]
theorem bDev_ok {n : Nat} {l eps : List Int} {k : Nat} (hn : 1 ≤ n ∧ n ≤ 4096) (hN : 1 ≤ eps.length ∧ eps.length ≤ 8) (hk : k ≤ n * 64) (hl : l.length = n * 64) (hb : ∀ x ∈ l, 0 ≤ x ∧ x < 256) (hE : ∀ x ∈ eps, 0 ≤ x ∧ x ≤ 2147483647) : (bDev n l eps k).Ok := by
  refine ⟨by simp [bDev, chunks_len]; omega, by simp [bDev, chunks_len]; omega, ?_, hN.1, hN.2, by simp [bDev]; omega, ?_, ⟨by simp [bDev], by simp [bDev]⟩⟩
  · intro s hs
    obtain ⟨i, hi, rfl⟩ := List.mem_map.1 hs
    rw [List.mem_range] at hi
    refine chunk_sec ?_ (by simp; omega)
    intro x hx
    rcases List.mem_append.1 hx with h | h
    · exact hb x (List.mem_of_mem_take h)
    · rw [List.eq_of_mem_replicate h]; omega
  · intro e he
    rcases List.mem_append.1 he with h | h
    · exact hE e h
    · rw [List.eq_of_mem_replicate h]; omega
theorem Rv.putByte {w : World} {r sg eg n k : Nat} {l eps : List Int} {x : Int} (h : Rv w r sg eg (bDev n l eps k)) (hk : k < n * 64) (hl : l.length = n * 64) (hx : l[k]? = some x) (hok : (bDev n l eps (k + 1)).Ok) : Rv (w.setCell ⟨sg, k, none⟩ (.int .u8 x)) r sg eg (bDev n l eps (k + 1)) := by
  obtain ⟨cap, ecap, ex, a1, ⟨ex', a2, a3, a3', a3''⟩, a4, a5⟩ := h.lay
  have hS : (bDev n l eps (k + 1)).S.length = (bDev n l eps k).S.length := by simp [bDev, chunks_len]
  refine ⟨hok, h.ne, cap, ecap, ex, ?_, ⟨ex', ?_, by rw [hS]; exact a3, by rw [hS]; exact a3', a3''⟩, heap_set_ne a4 (Ne.symm h.ne.2.2), a5⟩
  · have e : refCells (bDev n l eps (k + 1)) sg cap eg ecap = refCells (bDev n l eps k) sg cap eg ecap := by simp only [refCells, hS]; rfl
    rw [e]
    exact heap_set_ne a1 h.ne.1
  · rw [heap_set a2]
    congr 2
    have f1 : (bDev n l eps k).S.flatten = l.take k ++ List.replicate (n * 64 - k) 0 := mid_flat n l k (by omega) hl
    have f2 : (bDev n l eps (k + 1)).S.flatten = l.take (k + 1) ++ List.replicate (n * 64 - (k + 1)) 0 := mid_flat n l (k + 1) (by omega) hl
    have hlk : (l.take k).length = k := by simp; omega
    have hkl : k < l.length := by omega
    have hxe : l[k] = x := by rw [List.getElem?_eq_getElem hkl] at hx; exact Option.some.inj hx
    rw [f1, f2, List.setIfInBounds_toArray, List.set_append_left _ _ (by rw [u8s_len, List.length_append, hlk, List.length_replicate]; omega)]
    congr 2
    rw [show u8s = List.map (Value.int .u8) from rfl, ← List.map_set, List.set_append_right _ _ (by omega), hlk, Nat.sub_self, show n * 64 - k = (n * 64 - (k + 1)) + 1 by omega, List.replicate_succ, List.set_cons_zero, List.take_succ_eq_append_getElem hkl, hxe, List.append_assoc]
    rfl
theorem Rv.byte {w : World} {r sg eg : Nat} {D : Dev} (h : Rv w r sg eg D) (k : Nat) (hk : k < D.S.length * 64) : (∃ u, w.cell? ⟨sg, k, none⟩ = some u) ∧ w.frozen? ⟨sg, k, none⟩ = false := by
  obtain ⟨cap, ecap, ex, a1, ⟨ex', a2, a3⟩, a4, a5⟩ := h.lay
  refine ⟨?_, frozen_of_block a2 k⟩
  rw [cell_of_block a2, List.getElem?_toArray, List.getElem?_append_left (by rw [u8s_len, flat_len h.ok.sec]; exact hk)]
  exact ⟨_, List.getElem?_eq_getElem (by rw [u8s_len, flat_len h.ok.sec]; exact hk)⟩
theorem Rv.epochW {w : World} {r sg eg : Nat} {D : Dev} (h : Rv w r sg eg D) (k : Nat) : w.frozen? ⟨eg, k, none⟩ = false := by
  obtain ⟨cap, ecap, ex, a1, a2, a4, a5⟩ := h.lay
  exact frozen_of_block a4 k

end Go.Proofs.Ytffflafalffifaa.K
