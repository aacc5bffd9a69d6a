/-
  The walk of New.
-/
import Derived.Test.YtffflafalffifaaSwap
import Derived.Laws.MakeOwn
namespace Go.Proofs.Ytffflafalffifaa
open Go.RowKit

/-- So many sectors of noughts. -/
def noughts (n : Nat) : List (List Int) := List.replicate n nought
theorem noughts_len (n : Nat) : (noughts n).length = n := by simp [noughts]
theorem noughts_sec (n : Nat) : ∀ s ∈ noughts n, Sec s := fun s hs => by rw [List.eq_of_mem_replicate hs]; exact nought_sec
theorem noughts_flat (n : Nat) : (noughts n).flatten = List.replicate (n * 64) 0 := by
  unfold noughts nought
  induction n with
  | zero => rfl
  | succ n ih => rw [List.replicate_succ, List.flatten_cons, ih, List.replicate_append_replicate]; congr 1; omega

theorem made_same (m : Nat) (v : Value) (n : Nat) (hm : 0 < m) : madeCells (List.replicate m v).toArray n = (List.replicate n v).toArray := by
  apply Array.ext
  · rw [size_madeCells]; simp
  · intro i h1 h2
    have h3 : i % m < m := Nat.mod_lt _ hm
    simp [madeCells, h3]
theorem made_noughts (n : Nat) : madeCells (u8s nought).toArray (n * 64) = (u8s (noughts n).flatten).toArray := by
  have h1 : u8s nought = List.replicate 64 (Value.int .u8 0) := by unfold u8s nought; rw [List.map_replicate]
  have h2 : u8s (noughts n).flatten = List.replicate (n * 64) (Value.int .u8 0) := by unfold u8s; rw [noughts_flat, List.map_replicate]
  rw [h1, h2, made_same _ _ _ (by decide)]

theorem Try.zero38 : (Try.prog.info? 38).map (fun i => (i.zero, i.size, i.bytes)) = some (some (secV nought), 64, 64) := by kernel_rfl

theorem wpMakeS {ops : Array Oper} {rest : List Oper} {op : Oper} {a : Act} {w : World} {Q : Exit → Act → World → Prop} (hgd : op.guard = none) (x y : Operand) (ho : op.op = .makeSlice 36 x y) (n : Nat) (hx : a.eval x = .int .i64 n) (hy : a.eval y = .int .i64 n) (hn : n ≤ 2199023255552)
    (h : wpList Try.prog ops Q rest (a.put op.dst (.slice (some ⟨w.heap.size, 0, none⟩) n n)) (w.alloc (.cells (u8s (noughts n).flatten).toArray 38))) : wpList Try.prog ops Q (op :: rest) a w := by
  obtain ⟨i0, hi, hz0, hz1, hz2⟩ := info_parts Try.zero38
  have hr := run_make (P := Try.prog) w 36 38 i0 (secV nought) Try.underlying36 hi hz0 .i64 .i64 n n (by omega) (by omega) (by rw [hz2]; omega) (by omega)
  have hc : (secV nought).cells = (u8s nought).toArray := rfl
  rw [hz1, Int.toNat_natCast, hc, made_noughts] at hr
  refine wpList_plain hgd fun K hK => ?_
  unfold Oper.wp execOp
  simp only [ho, hx, hy, Sem.run_bind, hr, Result.andThen_ok]
  exact hK _ _ h

/-- A device of noughts. -/
def newDev (n N : Nat) : Dev := ⟨noughts n, N, List.replicate 8 0, 0, false, 0, false⟩
theorem newDev_ok {n N : Nat} (h : 1 ≤ n ∧ n ≤ 4096) (hN : 1 ≤ N ∧ N ≤ 8) : (newDev n N).Ok :=
  ⟨by simp [newDev, noughts_len]; omega, by simp [newDev, noughts_len]; omega, noughts_sec n, hN.1, hN.2, rfl, fun e he => by rw [List.eq_of_mem_replicate he]; omega, by simp [newDev]⟩

/-- May a device have so many sectors and nodes? -/
def newB (x y : Int) : Bool := decide ((1 ≤ x ∧ x ≤ 4096) ∧ 1 ≤ y ∧ y ≤ 8)

theorem new_no (x y : Int) (w : World) (h : newB x y = false) : Calls Try.prog 8 #[.int .i64 x, .int .i64 y] w fun e w' => e = .returned (.tuple #[.pointer none, .int .i64 2]) ∧ w' = w := by
  have h' : ¬ ((1 ≤ x ∧ x ≤ 4096) ∧ 1 ≤ y ∧ y ≤ 8) := by simpa [newB] using h
  have h1 := from29 1 x 4096 w
  have h2 := from29 1 y 8 w
  by_cases hx : 1 ≤ x ∧ x ≤ 4096
  · have e1 : decide (1 ≤ x ∧ x ≤ 4096) = true := by simpa using hx
    have e2 : decide (1 ≤ y ∧ y ≤ 8) = false := by simp; omega
    rw [e1] at h1
    rw [e2] at h2
    have H1 := hide h1
    have H2 := hide h2
    clear h h' h1 h2 e1 e2 hx
    go_enter Try.func8, Try.ntmps8
    go_wp2_with (go_at_call 29; first | (refine (unhide H1).mono ?_; rintro e w' ⟨rfl, rfl⟩; clear H1) | (refine (unhide H2).mono ?_; rintro e w' ⟨rfl, rfl⟩; clear H2))
    go_ret2
    exact ⟨rfl, rfl⟩
  · have e1 : decide (1 ≤ x ∧ x ≤ 4096) = false := by simp; omega
    rw [e1] at h1
    have H1 := hide h1
    clear h h' h1 h2 e1 hx
    go_enter Try.func8, Try.ntmps8
    go_wp2_with (go_at_call 29; first | (refine (unhide H1).mono ?_; rintro e w' ⟨rfl, rfl⟩; clear H1))
    go_ret2
    exact ⟨rfl, rfl⟩

set_option maxHeartbeats 1000000 in
theorem new_yes (n N : Nat) (w : World) (h : newB n N = true) : Calls Try.prog 8 #[.int .i64 n, .int .i64 N] w fun e w' => ∃ b g, e = .returned (.tuple #[.pointer (some ⟨b, 0, none⟩), .int .i64 0]) ∧ w.heap.size ≤ b ∧ w.heap.size ≤ g ∧ Dv w' b g (newDev n N) ∧ Kept [] w w' := by
  have h' : (1 ≤ (n : Int) ∧ (n : Int) ≤ 4096) ∧ 1 ≤ (N : Int) ∧ (N : Int) ≤ 8 := by simpa [newB] using h
  have h1 := from29 1 n 4096 w
  have h2 := from29 1 N 8 w
  have e1 : decide (1 ≤ (n : Int) ∧ (n : Int) ≤ 4096) = true := by simpa using h'.1
  have e2 : decide (1 ≤ (N : Int) ∧ (N : Int) ≤ 8) = true := by simpa using h'.2
  rw [e1] at h1
  rw [e2] at h2
  have H1 := hide h1
  have H2 := hide h2
  clear h h1 h2 e1 e2
  go_enter Try.func8, Try.ntmps8
  go_wp2_with (first | (go_at_call 29; first | (refine (unhide H1).mono ?_; rintro e w' ⟨rfl, rfl⟩; clear H1) | (refine (unhide H2).mono ?_; rintro e w' ⟨rfl, rfl⟩; clear H2)) | (refine wpMakeS rfl (.tmp 14) (.tmp 14) rfl n rfl rfl (by omega) ?_))
  go_ret2
  refine ⟨w'.heap.size + 1, w'.heap.size, rfl, by omega, by omega, ⟨newDev_ok (by omega) (by omega), by omega, n, ?_, [], ?_, ?_, ?_, ?_⟩, ((Kept.refl _ _).alloc _).alloc _⟩
  · unfold Head
    rw [heap_new (by simp)]
    simp [devCells, newDev, noughts_len]
  · rw [List.append_nil]; exact heap_alloc_old (heap_new rfl)
  · simp [newDev, noughts_len]
  · simp [newDev, noughts_len]
  · unfold maxLen; omega

end Go.Proofs.Ytffflafalffifaa
