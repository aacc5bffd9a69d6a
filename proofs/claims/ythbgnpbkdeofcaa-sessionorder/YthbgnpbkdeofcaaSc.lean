/-
  Bodies that are copied; New.
-/
import Derived.Test.YthbgnpbkdeofcaaSb
namespace Go.Proofs.Ythbgnpbkdeofcaa
open Go.RowKit

theorem st33 (w : World) (b TT i : Nat) (us : List Value) (ao : Option Addr) (m c : Nat) (h : Blk w b TT us) (hi : i < us.length) : (storeVar 33 ⟨b, i, none⟩ (.slice ao m c)).run Try.prog w = .ok () (w.setCell ⟨b, i, none⟩ (.slice ao m c)) := by
  have hc := h.cell i
  rw [List.getElem?_eq_getElem hi] at hc
  have hf := h.frozen i
  simp [storeVar, go_sem, hc, hf]
theorem st30 (w : World) (b TT i : Nat) (us : List Value) (ao : Option Addr) (m c : Nat) (h : Blk w b TT us) (hi : i < us.length) : (storeVar 30 ⟨b, i, none⟩ (.slice ao m c)).run Try.prog w = .ok () (w.setCell ⟨b, i, none⟩ (.slice ao m c)) := by
  have hc := h.cell i
  rw [List.getElem?_eq_getElem hi] at hc
  have hf := h.frozen i
  simp [storeVar, go_sem, hc, hf]
theorem st2 (w : World) (b TT i : Nat) (us : List Value) (n : Int) (h : Blk w b TT us) (hi : i < us.length) : (storeVar 2 ⟨b, i, none⟩ (.int .i64 n)).run Try.prog w = .ok () (w.setCell ⟨b, i, none⟩ (.int .i64 n)) := by
  have hc := h.cell i
  rw [List.getElem?_eq_getElem hi] at hc
  have hf := h.frozen i
  simp [storeVar, go_sem, hc, hf]
section
variable {ops : Array Oper} {rest : List Oper} {op : Oper} {a : Act} {w : World} {Q : Exit → Act → World → Prop}
theorem wpStoreV {T b i : Nat} {v : Value} (hgd : op.guard = none) (x y : Operand) (ho : op.op = .store T x y) (hd : op.dst = none) (hx : a.eval x = .pointer (some ⟨b, i, none⟩)) (hy : a.eval y = v) (TT : Nat) (us : List Value) (hB : Blk w b TT us) (hst : (storeVar T ⟨b, i, none⟩ v).run Try.prog w = .ok () (w.setCell ⟨b, i, none⟩ v))
    (h : ∀ W, Blk W b TT (us.set i v) → Kept [b] w W → wpList Try.prog ops Q rest a W) : wpList Try.prog ops Q (op :: rest) a w :=
  wpList_plain hgd fun K hK => by
    have hr := h _ (hB.set (i := i) v) ((Kept.refl _ _).setCell (by simp) v)
    have e : a.put op.dst undef = a := by rw [hd]; rfl
    unfold Oper.wp execOp
    simp only [ho, hx, hy, Instr.storeAt, Instr.sureAddr, Sem.run_bind, Sem.run_pure, Result.andThen_ok, hst]
    refine hK _ _ ?_
    rw [e]
    exact hr
end
theorem st4 (w : World) (b TT i : Nat) (us : List Value) (n : Bool) (h : Blk w b TT us) (hi : i < us.length) : (storeVar 4 ⟨b, i, none⟩ (.bool n)).run Try.prog w = .ok () (w.setCell ⟨b, i, none⟩ (.bool n)) := by
  have hc := h.cell i
  rw [List.getElem?_eq_getElem hi] at hc
  have hf := h.frozen i
  simp [storeVar, go_sem, hc, hf]
theorem clone34 (ao : Option Addr) (m c : Nat) (bs : List Int) (w : World) (hV : Vals w ao m c (u8s bs)) (hnil : ao = none → m = 0 ∧ c = 0) (hb : ∀ x ∈ bs, 0 ≤ x ∧ x < 256) (hm : m ≤ 1000000) :
    Calls Try.prog 34 #[.slice ao m c] w fun e w' => ∃ v, e = .returned v ∧ Bod w' v bs ∧ (∀ k, v.ownBlock = some k → w.heap.size ≤ k) ∧ Kept [] w w' := by
  have hl := hV.len
  rw [u8s_len] at hl
  cases ao with
  | none =>
    obtain ⟨rfl, rfl⟩ := hnil rfl
    obtain rfl : bs = [] := List.length_eq_zero_iff.1 hl
    have hq : ∀ W, Sem.run Try.prog (binOp BinOp.eql 33 (.slice none 0 0) (.slice none 0 0)) W = .ok (.bool true) W := fun W => by kernel_rfl
    go_enter Try.func34, Try.ntmps34
    go_wp2
    go_ret
    exact ⟨_, rfl, ⟨World.ownsRow_nil _ _ _ _, by simp⟩, (fun k e => by cases e), Kept.refl _ _⟩
  | some ad =>
    have HV := hide hV
    have KW : Hid (Kept [] w (w.alloc (.cells #[] 5))) := (Kept.refl _ _).alloc _
    have HO : Hid ((w.alloc (.cells #[] 5)).ownsRow w.heap.size 5 1 (.slice (some ⟨w.heap.size, 0, none⟩) 0 0) ([] : List Value).length []) := ⟨rfl, .inr ⟨w.heap.size, 0, #[], rfl, Nat.le_refl _, heap_alloc_new w _, Nat.le_refl _, by decide, rfl, rfl⟩⟩
    have hq : ∀ W, Sem.run Try.prog (binOp BinOp.eql 33 (.slice (some ad) m c) (.slice none 0 0)) W = .ok (.bool false) W := fun W => by kernel_rfl
    clear hV
    go_enter Try.func34, Try.ntmps34
    go_wp2_with (
      first
      | (at_builtin; refine wpAppV (T := 33) (e := 5) (z := .int .u8 0) (by8 := 1) (by kernel_rfl) (by kernel_rfl) rfl (by decide) (by rfl) (.tmp 5) (.tmp 6) (by rfl) w.heap.size _ [] (u8s bs) (by rfl) (some ad) m c (by rfl) (fun h => by cases h) ((unhide HV).kept (unhide KW) (fun _ _ _ => by simp)) (u8s_one _) (unhide HO) (by simp; omega) (by simp) ?_
         intro v4 W4 hO4 g4))
    go_ret
    refine ⟨_, rfl, ⟨?_, hb⟩, ?_, kept_grown (unhide KW) g4 (fun k h => ?_)⟩
    · rw [List.nil_append, u8s_len] at hO4
      exact owns_base hO4 (Nat.zero_le _)
    · intro k hk
      exact (hO4.lt k hk).1
    · simp [Value.ownBlock] at h
      omega
/-- A session in which nothing was sent. -/
def newP (m o v : Int) : Ps := ⟨m, o, v, [], 0, 0, 0, false⟩
def mayB (m o v : Int) : Bool := nodeB m && nodeB o && !decide (m = o) && numB v
theorem newP_ok {m o v : Int} (h : m ≠ o) : (newP m o v).Ok := ⟨h, Nat.le_refl _, Nat.le_refl _, by simp [newP], by simp [newP], by simp [newP], by simp [newP]⟩
theorem Sx.new {W : World} {b : Nat} {m o v : Int} (hne : m ≠ o) (hb : Blk W b 68 ((newP m o v).C (.slice none 0 0))) : Sx W b (.slice none 0 0) [] (newP m o v) := ⟨newP_ok hne, hb, OwnO.nil _, rfl, by simp⟩
set_option maxHeartbeats 2000000 in
theorem new_no (m o v : Int) (w : World) (h : mayB m o v = false) : Calls Try.prog 9 #[.int .i64 m, .int .i64 o, .int .i64 v] w fun e w' => e = .returned (.tuple #[.pointer none, .int .i64 2]) ∧ w' = w := by
  have A1 := hide (fun W => node31 m W)
  have A2 := hide (fun W => node31 o W)
  have A3 := hide (fun W => num32 v W)
  unfold mayB at h
  cases h1 : nodeB m with
  | false =>
    rw [h1] at A1
    clear h1
    go_enter Try.func9, Try.ntmps9
    go_wp2_with (
      first
      | (go_at_call 31
         refine (unhide A1 _).mono ?_
         rintro e V1 ⟨rfl, rfl⟩))
    go_ret2
    exact ⟨rfl, rfl⟩
  | true =>
    rw [h1] at A1 h
    cases h2 : nodeB o with
    | false =>
      rw [h2] at A2
      clear h1 h2
      go_enter Try.func9, Try.ntmps9
      go_wp2_with (
        first
        | (go_at_call 31
           refine (unhide A1 _).mono ?_
           rintro e V1 ⟨rfl, rfl⟩
           clear A1)
        | (go_at_call 31
           refine (unhide A2 _).mono ?_
           rintro e V1 ⟨rfl, rfl⟩))
      go_ret2
      exact ⟨rfl, rfl⟩
    | true =>
      rw [h2] at A2 h
      by_cases h3 : m = o
      · clear h1 h2
        go_enter Try.func9, Try.ntmps9
        go_wp2_with (
          first
          | (go_at_call 31
             refine (unhide A1 _).mono ?_
             rintro e V1 ⟨rfl, rfl⟩
             clear A1)
          | (go_at_call 31
             refine (unhide A2 _).mono ?_
             rintro e V1 ⟨rfl, rfl⟩))
        go_ret2
        exact ⟨rfl, rfl⟩
      · have h4 : numB v = false := by simpa [h3] using h
        rw [h4] at A3
        clear h1 h2 h4
        go_enter Try.func9, Try.ntmps9
        go_wp2_with (
          first
          | (go_at_call 31
             refine (unhide A1 _).mono ?_
             rintro e V1 ⟨rfl, rfl⟩
             clear A1)
          | (go_at_call 31
             refine (unhide A2 _).mono ?_
             rintro e V1 ⟨rfl, rfl⟩)
          | (go_at_call 32
             refine (unhide A3 _).mono ?_
             rintro e V1 ⟨rfl, rfl⟩))
        go_ret2
        exact ⟨rfl, rfl⟩
set_option maxHeartbeats 2000000 in
theorem new_yes (m o v : Int) (w : World) (h : mayB m o v = true) : Calls Try.prog 9 #[.int .i64 m, .int .i64 o, .int .i64 v] w fun e w' => ∃ b, e = .returned (.tuple #[P0 b, .int .i64 0]) ∧ b = w.heap.size ∧ Sx w' b (.slice none 0 0) [] (newP m o v) ∧ Kept [] w w' := by
  have A1 := hide (fun W => node31 m W)
  have A2 := hide (fun W => node31 o W)
  have A3 := hide (fun W => num32 v W)
  unfold mayB at h
  simp only [Bool.and_eq_true, Bool.not_eq_true', decide_eq_false_iff_not] at h
  obtain ⟨⟨⟨h1, h2⟩, h3⟩, h4⟩ := h
  rw [h1] at A1
  rw [h2] at A2
  rw [h4] at A3
  clear h1 h2 h4
  go_enter Try.func9, Try.ntmps9
  go_wp2_with (
    first
    | (go_at_call 31
       refine (unhide A1 _).mono ?_
       rintro e V1 ⟨rfl, rfl⟩
       clear A1)
    | (go_at_call 31
       refine (unhide A2 _).mono ?_
       rintro e V1 ⟨rfl, rfl⟩)
    | (go_at_call 32
       refine (unhide A3 _).mono ?_
       rintro e V1 ⟨rfl, rfl⟩)
    | (refine wpBuildP (by rfl) #[(0, .tmp 26), (1, .tmp 27), (2, .tmp 28)] (by rfl) #[(0, .int .i64 m), (1, .int .i64 o), (2, .int .i64 v)] (by kernel_rfl) [.int .i64 m, .int .i64 o, .int .i64 v, .int .i64 0, .int .i64 0, .int .i64 0, .bool false] (by kernel_rfl) ?_)
    | (refine wpBuildP (by rfl) #[(0, .tmp 29)] (by rfl) #[(0, aggV [.int .i64 m, .int .i64 o, .int .i64 v, .int .i64 0, .int .i64 0, .int .i64 0, .bool false])] (by kernel_rfl) ((newP m o v).C (.slice none 0 0)) (by kernel_rfl) ?_)
    | (refine wpBoxV (by rfl) (.tmp 30) (by rfl) ((newP m o v).C (.slice none 0 0)) (by kernel_rfl) ?_
       intro W2 b2 e2 B2 K2
       have HE := hide e2
       clear e2))
  go_ret2
  exact ⟨b2, rfl, unhide HE, Sx.new h3 B2, K2⟩

end Go.Proofs.Ythbgnpbkdeofcaa
