/-
  Bodies that are copied; New.
-/
import Derived.Test.YtpcggcicpojdoaaNf
namespace Go.Proofs.Ytpcggcicpojdoaa
open Go.RowKit


theorem st34 (w : World) (b TT i : Nat) (us : List Value) (ao : Option Addr) (m c : Nat) (h : Blk w b TT us) (hi : i < us.length) : (storeVar 34 ⟨b, i, none⟩ (.slice ao m c)).run Try.prog w = .ok () (w.setCell ⟨b, i, none⟩ (.slice ao m c)) := by
  have hc := h.cell i
  rw [List.getElem?_eq_getElem hi] at hc
  have hf := h.frozen i
  simp [storeVar, go_sem, hc, hf]
theorem st56 (w : World) (b TT i : Nat) (us : List Value) (ao : Option Addr) (m c : Nat) (h : Blk w b TT us) (hi : i < us.length) : (storeVar 56 ⟨b, i, none⟩ (.slice ao m c)).run Try.prog w = .ok () (w.setCell ⟨b, i, none⟩ (.slice ao m c)) := by
  have hc := h.cell i
  rw [List.getElem?_eq_getElem hi] at hc
  have hf := h.frozen i
  simp [storeVar, go_sem, hc, hf]
theorem st2 (w : World) (b TT i : Nat) (us : List Value) (n : Int) (h : Blk w b TT us) (hi : i < us.length) : (storeVar 2 ⟨b, i, none⟩ (.int .i64 n)).run Try.prog w = .ok () (w.setCell ⟨b, i, none⟩ (.int .i64 n)) := by
  have hc := h.cell i
  rw [List.getElem?_eq_getElem hi] at hc
  have hf := h.frozen i
  simp [storeVar, go_sem, hc, hf]
section
variable {ops : Array Oper} {rest : List Oper} {op : Oper} {a : Act} {w : World} {Q : Exit → Act → World → Prop}
theorem wpStoreV {T b i : Nat} {v : Value} (hgd : op.guard = none) (x y : Operand) (ho : op.op = .store T x y) (hd : op.dst = none) (hx : a.eval x = .pointer (some ⟨b, i, none⟩)) (hy : a.eval y = v) (TT : Nat) (us : List Value) (hB : Blk w b TT us) (hst : (storeVar T ⟨b, i, none⟩ v).run Try.prog w = .ok () (w.setCell ⟨b, i, none⟩ v))
    (h : ∀ W, Blk W b TT (us.set i v) → Kept [b] w W → wpList Try.prog ops Q rest a W) : wpList Try.prog ops Q (op :: rest) a w :=
  wpList_plain hgd fun K hK => by
    have hr := h _ (hB.set (i := i) v) ((Kept.refl _ _).setCell (by simp) v)
    have e : a.put op.dst undef = a := by rw [hd]; rfl
    unfold Oper.wp execOp
    simp only [ho, hx, hy, Instr.storeAt, Instr.sureAddr, Sem.run_bind, Sem.run_pure, Result.andThen_ok, hst]
    refine hK _ _ ?_
    rw [e]
    exact hr
end
theorem clone55 (ao : Option Addr) (m c : Nat) (bs : List Int) (w : World) (hV : Vals w ao m c (u8s bs)) (hnil : ao = none → m = 0 ∧ c = 0) (hb : ∀ x ∈ bs, 0 ≤ x ∧ x < 256) (hm : m ≤ 1000000) :
    Calls Try.prog 55 #[.slice ao m c] w fun e w' => ∃ v, e = .returned v ∧ Bod w' v bs ∧ (∀ k, v.ownBlock = some k → w.heap.size ≤ k) ∧ Kept [] w w' := by
  have hl := hV.len
  rw [u8s_len] at hl
  cases ao with
  | none =>
    obtain ⟨rfl, rfl⟩ := hnil rfl
    obtain rfl : bs = [] := List.length_eq_zero_iff.1 hl
    have hq : ∀ W, Sem.run Try.prog (binOp BinOp.eql 34 (.slice none 0 0) (.slice none 0 0)) W = .ok (.bool true) W := fun W => by kernel_rfl
    go_enter Try.func55, Try.ntmps55
    go_wp2
    go_ret
    exact ⟨_, rfl, ⟨World.ownsRow_nil _ _ _ _, by simp⟩, (fun k e => by cases e), Kept.refl _ _⟩
  | some ad =>
    have HV := hide hV
    have KW : Hid (Kept [] w (w.alloc (.cells #[] 5))) := (Kept.refl _ _).alloc _
    have HO : Hid ((w.alloc (.cells #[] 5)).ownsRow w.heap.size 5 1 (.slice (some ⟨w.heap.size, 0, none⟩) 0 0) ([] : List Value).length []) := ⟨rfl, .inr ⟨w.heap.size, 0, #[], rfl, Nat.le_refl _, heap_alloc_new w _, Nat.le_refl _, by decide, rfl, rfl⟩⟩
    have hq : ∀ W, Sem.run Try.prog (binOp BinOp.eql 34 (.slice (some ad) m c) (.slice none 0 0)) W = .ok (.bool false) W := fun W => by kernel_rfl
    clear hV
    go_enter Try.func55, Try.ntmps55
    go_wp2_with (
      first
      | (at_builtin; refine wpAppV (T := 34) (e := 5) (z := .int .u8 0) (by8 := 1) (by kernel_rfl) (by kernel_rfl) rfl (by decide) (by rfl) (.tmp 5) (.tmp 6) (by rfl) w.heap.size _ [] (u8s bs) (by rfl) (some ad) m c (by rfl) (fun h => by cases h) ((unhide HV).kept (unhide KW) (fun _ _ _ => by simp)) (u8s_one _) (unhide HO) (by simp; omega) (by simp) ?_
         intro v4 W4 hO4 g4))
    go_ret
    refine ⟨_, rfl, ⟨?_, hb⟩, ?_, kept_grown (unhide KW) g4 (fun k h => ?_)⟩
    · rw [List.nil_append, u8s_len] at hO4
      exact owns_base hO4 (Nat.zero_le _)
    · intro k hk
      exact (hO4.lt k hk).1
    · simp [Value.ownBlock] at h
      omega
def newN (n : Int) : Nn := ⟨n, 0, []⟩
theorem new_no (n : Int) (w : World) (h : ¬(1 ≤ n ∧ n ≤ 8)) : Calls Try.prog 7 #[.int .i64 n] w fun e w' => e = .returned (.tuple #[.pointer none, .int .i64 2]) ∧ w' = w := by
  by_cases h1 : n < 1
  · go_enter Try.func7, Try.ntmps7
    go_wp2
    go_ret2
    exact ⟨rfl, rfl⟩
  · have h2 : 8 < n := by omega
    go_enter Try.func7, Try.ntmps7
    go_wp2
    go_ret2
    exact ⟨rfl, rfl⟩
theorem new_yes (n : Int) (w : World) (h : 1 ≤ n ∧ n ≤ 8) : Calls Try.prog 7 #[.int .i64 n] w fun e w' => ∃ b mb, e = .returned (.tuple #[P0 b, .int .i64 0]) ∧ w.heap.size ≤ b ∧ w.heap.size ≤ mb ∧ Nt w' b mb (.slice none 0 0) (newN n) ∧ Kept [] w w' := by
  have h1 := h.1
  have h2 := h.2
  have hmk : ∀ W : World, Sem.run Try.prog (Instr.makeMap 55 none) W = .ok (.map (some W.heap.size)) (W.alloc (.map #[] 0)) := fun W => by kernel_rfl
  go_enter Try.func7, Try.ntmps7
  go_wp2_with (
    first
    | (refine wpBuildP (by rfl) #[(0, .tmp 10), (2, .tmp 11)] (by rfl) #[(0, .int .i64 n), (2, .map (some w.heap.size))] (by kernel_rfl) [.int .i64 n, .int .i64 0, .map (some w.heap.size), .slice none 0 0] (by kernel_rfl) ?_)
    | (refine wpBoxV (by rfl) (.tmp 12) (by rfl) [.int .i64 n, .int .i64 0, .map (some w.heap.size), .slice none 0 0] (by kernel_rfl) ?_
       intro W2 b2 e2 B2 K2
       have HE := hide e2
       clear e2))
  go_ret2
  refine ⟨b2, w.heap.size, rfl, by rw [unhide HE]; simp, Nat.le_refl _, ⟨h, B2, ⟨#[], 0, K2.heap (heap_alloc_new w _) (by simp), rfl, MapKept.stamped_empty _⟩, World.ownsRow_nil _ _ _ _, by simp [newN], by simp [newN], by simp [newN], by simp [newN], by simp [newN], by simp [newN], by simp [newN]⟩, ((Kept.refl _ _).alloc _).trans K2⟩

end Go.Proofs.Ytpcggcicpojdoaa
