/-
  What a device is, as plain data, and where it lies in a world.
-/
import Derived.Test.YtffflafalffifaaPlain
namespace Go.Proofs.Ytffflafalffifaa
open Go.RowKit

/-- A device: sectors of bytes, how many nodes, eight epochs, how many things were done, the cut. -/
structure Dev where
  S : List (List Int)
  N : Nat
  E : List Int
  done : Int
  set : Bool
  left : Int
  lost : Bool

/-- 64 bytes. -/
def Sec (s : List Int) : Prop := s.length = 64 ∧ ∀ x ∈ s, 0 ≤ x ∧ x < 256

structure Dev.Ok (D : Dev) : Prop where
  s0 : 1 ≤ D.S.length
  s1 : D.S.length ≤ 4096
  sec : ∀ s ∈ D.S, Sec s
  n0 : 1 ≤ D.N
  n1 : D.N ≤ 8
  e8 : D.E.length = 8
  e0 : ∀ e ∈ D.E, 0 ≤ e ∧ e ≤ 2147483647
  l0 : 0 ≤ D.left ∧ D.left ≤ 9223372036854775807

def devCells (D : Dev) (g cap : Nat) : List Value :=
  [.slice (some ⟨g, 0, none⟩) D.S.length cap, .int .i64 D.N] ++ D.E.map (Value.int .i64) ++ [.int .i64 D.done, .bool D.set, .int .i64 D.left, .bool D.lost]

/-- A device's head lies in block b. -/
def Head (w : World) (b g cap : Nat) (D : Dev) : Prop := w.heap[b]? = some (.cells (devCells D g cap).toArray 67 (0, 0))

/-- Its sectors lie in block g. -/
def Body (w : World) (g cap : Nat) (S : List (List Int)) : Prop := ∃ ex : List Value, w.heap[g]? = some (.cells (u8s S.flatten ++ ex).toArray 38 (0, 0)) ∧ S.length ≤ cap ∧ ex.length = (cap - S.length) * 64 ∧ cap ≤ maxLen

/-- A device at block b, its sectors at block g. -/
structure Dv (w : World) (b g : Nat) (D : Dev) : Prop where
  ok : D.Ok
  ne : b ≠ g
  lay : ∃ cap, Head w b g cap D ∧ Body w g cap D.S

/-- A pointer to a device of so many sectors; 0: nil, or a zero one. -/
def Sz (w : World) (p : Value) (n : Nat) : Prop :=
  (p = .pointer none ∧ n = 0) ∨ ∃ b ao cap, p = .pointer (some ⟨b, 0, none⟩) ∧ w.cell? ⟨b, 0, none⟩ = some (.slice ao n cap)

theorem devCells_len {D : Dev} (h : D.Ok) (g cap : Nat) : (devCells D g cap).length = 14 := by
  simp [devCells, h.e8]

theorem e_split {E : List Int} (h : E.length = 8) : ∃ e0 e1 e2 e3 e4 e5 e6 e7, E = [e0, e1, e2, e3, e4, e5, e6, e7] := by
  match E, h with
  | [a, b, c, d, e, f, g, i], _ => exact ⟨a, b, c, d, e, f, g, i, rfl⟩

theorem Head.cells {w : World} {b g cap : Nat} {D : Dev} (h : Head w b g cap D) (hok : D.Ok) :
    w.cell? ⟨b, 0, none⟩ = some (.slice (some ⟨g, 0, none⟩) D.S.length cap) ∧ w.cell? ⟨b, 1, none⟩ = some (.int .i64 D.N) ∧ w.cell? ⟨b, 10, none⟩ = some (.int .i64 D.done) ∧
    w.cell? ⟨b, 11, none⟩ = some (.bool D.set) ∧ w.cell? ⟨b, 12, none⟩ = some (.int .i64 D.left) ∧ w.cell? ⟨b, 13, none⟩ = some (.bool D.lost) := by
  obtain ⟨e0, e1, e2, e3, e4, e5, e6, e7, hE⟩ := e_split hok.e8
  unfold Head at h
  refine ⟨?_, ?_, ?_, ?_, ?_, ?_⟩ <;> rw [cell_of_block h] <;> simp [devCells, hE]

theorem Head.epoch {w : World} {b g cap : Nat} {D : Dev} (h : Head w b g cap D) (hok : D.Ok) (i : Nat) (hi : i < 8) : w.cell? ⟨b, 2 + i, none⟩ = some (.int .i64 (D.E[i]'(by rw [hok.e8]; exact hi))) := by
  unfold Head at h
  rw [cell_of_block h]
  simp only [devCells, List.getElem?_toArray]
  rw [List.append_assoc, List.getElem?_append_right (by simp), List.getElem?_append_left (by simp [hok.e8]; omega)]
  simp

theorem Head.frozen {w : World} {b g cap : Nat} {D : Dev} (h : Head w b g cap D) (i : Nat) : w.frozen? ⟨b, i, none⟩ = false := frozen_of_block h i

theorem Dv.sz {w : World} {b g : Nat} {D : Dev} (h : Dv w b g D) : Sz w (.pointer (some ⟨b, 0, none⟩)) D.S.length := by
  obtain ⟨cap, h1, _⟩ := h.lay
  exact .inr ⟨b, _, cap, rfl, (h1.cells h.ok).1⟩

/-- What a device is stays where its two blocks stay. -/
theorem Dv.kept {w w' : World} {b g : Nat} {D : Dev} {X : List Nat} (h : Dv w b g D) (hk : Kept X w w') (hb : b ∉ X) (hg : g ∉ X) : Dv w' b g D := by
  obtain ⟨cap, h1, ex, h2, h3⟩ := h.lay
  exact ⟨h.ok, h.ne, cap, hk.heap h1 hb, ex, hk.heap h2 hg, h3⟩

theorem Dv.lt {w : World} {b g : Nat} {D : Dev} (h : Dv w b g D) : b < w.heap.size ∧ g < w.heap.size := by
  obtain ⟨cap, h1, ex, h2, h3⟩ := h.lay
  exact ⟨lt_of_block h1, lt_of_block h2⟩

theorem Sz.kept {w w' : World} {p : Value} {n : Nat} {X : List Nat} (h : Sz w p n) (hk : Kept X w w') (hb : ∀ b, p = .pointer (some ⟨b, 0, none⟩) → b ∉ X) : Sz w' p n := by
  rcases h with h | ⟨b, ao, cap, rfl, h⟩
  · exact .inl h
  · exact .inr ⟨b, ao, cap, rfl, hk.cell h (hb b rfl)⟩

/-- The sectors, one by one. -/
theorem flat_range {S : List (List Int)} (hs : ∀ s ∈ S, Sec s) : ∀ (i : Nat) (h : i < S.length), ∃ pre post : List Int, S.flatten = pre ++ S[i] ++ post ∧ pre.length = i * 64 := by
  induction S with
  | nil => intro i h; simp at h
  | cons s S ih =>
    intro i h
    cases i with
    | zero => exact ⟨[], S.flatten, by simp, by simp⟩
    | succ i =>
      obtain ⟨pre, post, h1, h2⟩ := ih (fun t ht => hs t (List.mem_cons_of_mem _ ht)) i (by simpa using h)
      have hl := (hs s (List.mem_cons_self ..)).1
      exact ⟨s ++ pre, post, by simp [h1], by simp [h2, hl]; omega⟩

theorem flat_len {S : List (List Int)} (hs : ∀ s ∈ S, Sec s) : S.flatten.length = S.length * 64 := by
  induction S with
  | nil => rfl
  | cons s S ih =>
    have hl := (hs s (List.mem_cons_self ..)).1
    simp [hl, ih (fun t ht => hs t (List.mem_cons_of_mem _ ht))]; omega

theorem flat_set {S : List (List Int)} (hs : ∀ s ∈ S, Sec s) : ∀ (i : Nat) (t : List Int) (pre mid post : List Int), i < S.length → S.flatten = pre ++ mid ++ post → pre.length = i * 64 → mid.length = 64 → (S.set i t).flatten = pre ++ t ++ post := by
  induction S with
  | nil => intro i t _ _ _ h; simp at h
  | cons s S ih =>
    intro i t pre mid post h h1 h2 h3
    have hl := (hs s (List.mem_cons_self ..)).1
    cases i with
    | zero =>
      obtain rfl : pre = [] := List.eq_nil_of_length_eq_zero (by simpa using h2)
      simp only [List.flatten_cons, List.nil_append] at h1
      have := List.append_inj h1 (by rw [hl, h3])
      simp [this.2]
    | succ i =>
      have hpre : pre = s ++ pre.drop 64 := by
        have : (s ++ S.flatten).take 64 = (pre ++ mid ++ post).take 64 := by rw [← h1]; simp
        rw [List.take_append_of_le_length (by omega), List.take_of_length_le (by omega), List.append_assoc, List.take_append_of_le_length (by omega)] at this
        conv => lhs; rw [← List.take_append_drop 64 pre, ← this]
      have h4 : S.flatten = pre.drop 64 ++ mid ++ post := by
        have : s ++ S.flatten = s ++ (pre.drop 64 ++ mid ++ post) := by
          have : s ++ S.flatten = pre ++ mid ++ post := by rw [← h1]; simp
          rw [this]; conv => lhs; rw [hpre]
          simp
        exact List.append_cancel_left this
      have := ih (fun t ht => hs t (List.mem_cons_of_mem _ ht)) i t (pre.drop 64) mid post (by simpa using h) h4 (by simp; omega) h3
      simp only [List.set_cons_succ, List.flatten_cons, this]
      conv => rhs; rw [hpre]
      simp

theorem Body.range {w : World} {g cap : Nat} {S : List (List Int)} (h : Body w g cap S) (hs : ∀ s ∈ S, Sec s) (i : Nat) (hi : i < S.length) : w.rangeAt g (i * 64) (u8s S[i]) := by
  obtain ⟨ex, h1, _⟩ := h
  obtain ⟨pre, post, h2, h3⟩ := flat_range hs i hi
  intro j v hj
  rw [cell_of_block h1]
  have hjl : j < (u8s S[i]).length := (List.getElem?_eq_some_iff.1 hj).1
  rw [h2, u8s_app, u8s_app, List.append_assoc, List.append_assoc, List.getElem?_toArray, List.getElem?_append_right (by rw [u8s_len]; omega), List.getElem?_append_left (by rw [u8s_len]; omega)]
  rw [u8s_len, h3]
  rw [← hj]; congr 1; omega

theorem Body.there {w : World} {g cap : Nat} {S : List (List Int)} (h : Body w g cap S) (hs : ∀ s ∈ S, Sec s) (i : Nat) (hi : i < S.length) : w.there g (i * 64) 64 := by
  have hr := h.range hs i hi
  have hl := (hs S[i] (List.getElem_mem hi)).1
  obtain ⟨ex, h1, _⟩ := h
  intro j hj
  exact ⟨hr.isSome j (by rw [u8s_len]; omega), frozen_of_block h1 _⟩

theorem Body.put {w : World} {g cap : Nat} {S : List (List Int)} (h : Body w g cap S) (hs : ∀ s ∈ S, Sec s) (i : Nat) (hi : i < S.length) (t : List Int) (ht : t.length = 64) : Body (w.setCells g (i * 64) (u8s t)) g cap (S.set i t) := by
  obtain ⟨ex, h1, h4, h5, h6⟩ := h
  obtain ⟨pre, post, h2, h3⟩ := flat_range hs i hi
  have hl := (hs S[i] (List.getElem_mem hi)).1
  refine ⟨ex, ?_, by simpa using h4, by simpa using h5, h6⟩
  have hf := flat_set hs i t pre S[i] post hi h2 h3 hl
  rw [hf]
  rw [h2] at h1
  have := heap_sets (b := g) (t := 38) (p := (0, 0)) (u8s t) w (i * 64) (u8s pre) (u8s S[i]) (u8s post ++ ex) (by rw [h1]; simp [u8s_app]) (by rw [u8s_len, h3]) (by rw [u8s_len, u8s_len, hl, ht])
  rw [this]; simp [u8s_app]

end Go.Proofs.Ytffflafalffifaa
