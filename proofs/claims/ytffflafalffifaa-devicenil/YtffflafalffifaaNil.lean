/-
  The walk of the law DeviceNil: whatever the world, it returns true, and all that was there stays.
-/
import Derived.Test.YtffflafalffifaaOf
namespace Go.Proofs.Ytffflafalffifaa
open Go.RowKit

def zs (n : Nat) : List Int := List.replicate n 0
theorem Try.zero5 : (Try.prog.info? 5).map (fun i => (i.zero, i.size, i.bytes)) = some (some (.int .u8 0), 1, 1) := by kernel_rfl
theorem wpMakeB {ops : Array Oper} {rest : List Oper} {op : Oper} {a : Act} {w : World} {Q : Exit → Act → World → Prop} (hgd : op.guard = none) (x y : Operand) (ho : op.op = .makeSlice 42 x y) (n : Nat) (hx : a.eval x = .int .i64 n) (hy : a.eval y = .int .i64 n) (hn : n ≤ 2199023255552)
    (h : wpList Try.prog ops Q rest (a.put op.dst (.slice (some ⟨w.heap.size, 0, none⟩) n n)) (w.alloc (.cells (u8s (zs n)).toArray 5))) : wpList Try.prog ops Q (op :: rest) a w := by
  obtain ⟨i0, hi, hz0, hz1, hz2⟩ := info_parts Try.zero5
  have hr := run_make (P := Try.prog) w 42 5 i0 (.int .u8 0) Try.underlying42 hi hz0 .i64 .i64 n n (by omega) (by omega) (by rw [hz2]; omega) (by omega)
  have hc : madeCells (Value.int .u8 0).cells (n * 1) = (u8s (zs n)).toArray := by
    have h1 : (Value.int .u8 0).cells = (List.replicate 1 (Value.int .u8 0)).toArray := rfl
    rw [h1, made_same _ _ _ (by decide), Nat.mul_one]
    unfold u8s zs
    rw [List.map_replicate]
  rw [hz1, Int.toNat_natCast, hc] at hr
  refine wpList_plain hgd fun K hK => ?_
  unfold Oper.wp execOp
  simp only [ho, hx, hy, Sem.run_bind, hr, Result.andThen_ok]
  exact hK _ _ h

theorem vals_new (w : World) (vs : List Value) (t : TypeId) : Vals (w.alloc (.cells vs.toArray t)) (some ⟨w.heap.size, 0, none⟩) vs.length vs.length vs :=
  ⟨rfl, Nat.le_refl _, fun _ => ⟨w.heap.size, 0, rfl, fun j v hj => by rw [cell_of_block (heap_alloc_new w _), Nat.zero_add, List.getElem?_toArray]; exact hj⟩⟩

/-- Where DeviceNil stands: two devices, and what was there. -/
structure DS (w0 w : World) (b g b2 g2 : Nat) (D E : Dev) : Prop where
  d : Dv w b g D
  e : Dv w b2 g2 E
  k : Kept [] w0 w
  nb : w0.heap.size ≤ b ∧ w0.heap.size ≤ g ∧ w0.heap.size ≤ b2 ∧ w0.heap.size ≤ g2
  ap : b ∉ [b2, g2] ∧ g ∉ [b2, g2] ∧ b2 ∉ [b, g] ∧ g2 ∉ [b, g]
theorem DS.step {w0 w w' : World} {b g b2 g2 : Nat} {D D' E : Dev} (h : DS w0 w b g b2 g2 D E) (hd : Dv w' b g D') (hk : Kept [b, g] w w') : DS w0 w' b g b2 g2 D' E :=
  ⟨hd, h.e.kept hk h.ap.2.2.1 h.ap.2.2.2, h.k.fresh hk (by have := h.nb; intro i hi; simp at hi; omega), h.nb, h.ap⟩
theorem DS.step2 {w0 w w' : World} {b g b2 g2 : Nat} {D E E' : Dev} (h : DS w0 w b g b2 g2 D E) (hd : Dv w' b2 g2 E') (hk : Kept [b2, g2] w w') : DS w0 w' b g b2 g2 D E' :=
  ⟨h.d.kept hk h.ap.1 h.ap.2.1, hd, h.k.fresh hk (by have := h.nb; intro i hi; simp at hi; omega), h.nb, h.ap⟩
theorem DS.quiet {w0 w w' : World} {b g b2 g2 : Nat} {D E : Dev} (h : DS w0 w b g b2 g2 D E) (hk : Kept [] w w') : DS w0 w' b g b2 g2 D E :=
  ⟨h.d.kept hk (by simp) (by simp), h.e.kept hk (by simp) (by simp), h.k.trans hk, h.nb, h.ap⟩

def d0 : Dev := newDev 4096 8
def o0 : Dev := ofDev (zs 64) [2147483647]
theorem d0_len : d0.S.length = 4096 := noughts_len 4096
theorem d_w1 : d0.write 7 0 4096 [] = (0, d0) := by simp [Dev.write, Dev.ref, hasS, hasN, Dev.ep, d0_len, Dev.puts]; simp [d0, newDev]
theorem d_w2 : d0.write 7 0 4097 [] = (2, d0) := by simp [Dev.write, Dev.ref, hasS, d0_len]
theorem d_w3 : d0.write 7 (-1) 0 [] = (2, d0) := by simp [Dev.write, Dev.ref]
def d1 : Dev := (d0.cut 0).2
theorem o_up : o0.up 0 = (0, 5, o0) := by rfl
theorem o_f1 : o0.fence 0 2147483647 0 2147483647 = (2, o0) := by rfl
theorem o_f2 : o0.fence 0 2147483647 0 2147483646 = (0, o0) := by rfl

end Go.Proofs.Ytffflafalffifaa
