/-
  Plain data of a pool; single operations.
-/
import Derived.Test.YtgnafbohikbpfaaGx
import Derived.Test.YtgnafbohikbpfaaKit
namespace Go.Proofs.Ytgnafbohikbpfaa
set_option maxRecDepth 100000
set_option linter.unusedSimpArgs false
open Go.RowKit


def upd {α : Type} (f : Nat → α) (n : Nat) (v : α) : Nat → α := fun i => if i = n then v else f i
theorem upd_same {α : Type} (f : Nat → α) (n : Nat) (v : α) : upd f n v n = v := by simp [upd]
theorem upd_ne {α : Type} (f : Nat → α) {n i : Nat} (v : α) (h : i ≠ n) : upd f n v i = f i := by simp [upd, h]
/-- A frame. -/
structure Fr where
  pg : Int
  md : Int
  op : Int
  fi : Int
  ps : Int
  bd : List Int
  hb : bd.length = 96
  dy : Bool
def Fr.C (x : Fr) : List Value := .int .i64 x.pg :: .int .i64 x.md :: .int .i64 x.op :: .int .i64 x.fi :: .int .i64 x.ps :: (u8s x.bd ++ [.bool x.dy])
theorem Fr.len (x : Fr) : x.C.length = 102 := by simp [Fr.C, u8s_len, x.hb]
theorem Fr.one (x : Fr) : ∀ v ∈ x.C, v.oneCell' = true := by
  intro v hv
  simp only [Fr.C, u8s, List.mem_cons, List.mem_append, List.mem_map, List.mem_nil_iff, or_false] at hv
  rcases hv with rfl | rfl | rfl | rfl | rfl | ⟨y, _, rfl⟩ | rfl <;> rfl
theorem Fr.ext' {x y : Fr} (h1 : x.pg = y.pg) (h2 : x.md = y.md) (h3 : x.op = y.op) (h4 : x.fi = y.fi) (h5 : x.ps = y.ps) (h6 : x.bd = y.bd) (h7 : x.dy = y.dy) : x = y := by
  cases x; cases y; simp_all
/-- A place: free where its frame's mode is nought. -/
structure Pl where
  f : Fr
  pn : Nat
  us : Bool
def Pl.C (x : Pl) : List Value := x.f.C ++ [.int .i64 (x.pn : Int), .bool x.us]
theorem Pl.len (x : Pl) : x.C.length = 104 := by simp [Pl.C, Fr.len]
theorem Pl.one (x : Pl) : ∀ v ∈ x.C, v.oneCell' = true := by
  intro v hv
  simp only [Pl.C, List.mem_append, List.mem_cons, List.mem_nil_iff, or_false] at hv
  rcases hv with hv | rfl | rfl
  · exact x.f.one v hv
  · rfl
  · rfl
def zb : List Int := List.replicate 96 0
def fr0 : Fr := ⟨0, 0, 0, 0, 0, zb, by simp [zb], false⟩
def pl0 : Pl := ⟨fr0, 0, false⟩
def Pl.bz (x : Pl) : Bool := !decide (x.f.md = 0)
/-- A pool: how many places, the hand, the places. -/
structure Po where
  m : Nat
  h : Nat
  S : Nat → Pl
def plsC (S : Nat → Pl) : Nat → List Value
  | 0 => []
  | n + 1 => plsC S n ++ (S n).C
theorem plsC_len (S : Nat → Pl) : ∀ n, (plsC S n).length = n * 104
  | 0 => rfl
  | n + 1 => by rw [plsC, List.length_append, plsC_len S n, Pl.len]; omega
theorem plsC_one (S : Nat → Pl) : ∀ n, ∀ v ∈ plsC S n, v.oneCell' = true
  | 0 => fun v hv => by cases hv
  | n + 1 => fun v hv => by
    rcases List.mem_append.1 hv with h | h
    · exact plsC_one S n v h
    · exact (S n).one v h
theorem plsC_same {S R : Nat → Pl} : ∀ n, (∀ i, i < n → S i = R i) → plsC S n = plsC R n
  | 0, _ => rfl
  | n + 1, h => by rw [plsC, plsC, plsC_same n (fun i hi => h i (by omega)), h n (by omega)]
/-- The cells of the places, about one of them. -/
theorem plsC_split (S : Nat → Pl) (i : Nat) : ∀ n, i < n → ∃ post, ∀ x, plsC (upd S i x) n = plsC S i ++ x.C ++ post := by
  intro n
  induction n with
  | zero => intro h; omega
  | succ n ih =>
    intro h
    by_cases hi : i = n
    · subst hi
      refine ⟨[], fun x => ?_⟩
      rw [plsC, upd_same, List.append_nil, plsC_same i (fun j hj => upd_ne S x (by omega))]
    · obtain ⟨post, hp⟩ := ih (by omega)
      refine ⟨post ++ (S n).C, fun x => ?_⟩
      rw [plsC, hp x, upd_ne S x (by omega), List.append_assoc]
theorem upd_self (S : Nat → Pl) (i : Nat) : upd S i (S i) = S := by
  funext j
  unfold upd
  split
  · rename_i h; rw [h]
  · rfl
def Po.C (P : Po) (mv : Value) : List Value := plsC P.S 16 ++ [.int .i64 (P.m : Int), .int .i64 (P.h : Int), mv]
theorem Po.len (P : Po) (mv : Value) : (P.C mv).length = 1667 := by simp [Po.C, plsC_len]
theorem Po.one (P : Po) (mv : Value) (h : mv.oneCell' = true) : ∀ v ∈ P.C mv, v.oneCell' = true := by
  intro v hv
  simp only [Po.C, List.mem_append, List.mem_cons, List.mem_nil_iff, or_false] at hv
  rcases hv with hv | rfl | rfl | rfl
  · exact plsC_one _ _ v hv
  · rfl
  · rfl
  · exact h
theorem Po.at (P : Po) (mv : Value) (i j : Nat) (hi : i < 16) (hj : j < 104) : (P.C mv)[i * 104 + j]? = (P.S i).C[j]? := by
  obtain ⟨post, hp⟩ := plsC_split P.S i 16 hi
  have e := hp (P.S i)
  rw [upd_self] at e
  unfold Po.C
  rw [e, List.append_assoc, List.append_assoc, List.getElem?_append_right (by rw [plsC_len]; omega), plsC_len, List.getElem?_append_left (by rw [Pl.len]; omega)]
  congr 1
  omega
theorem Po.at_m (P : Po) (mv : Value) : (P.C mv)[1664]? = some (.int .i64 (P.m : Int)) := by
  unfold Po.C
  rw [List.getElem?_append_right (by rw [plsC_len]; omega), plsC_len]
  rfl
theorem Po.at_h (P : Po) (mv : Value) : (P.C mv)[1665]? = some (.int .i64 (P.h : Int)) := by
  unfold Po.C
  rw [List.getElem?_append_right (by rw [plsC_len]; omega), plsC_len]
  rfl
theorem Po.at_w (P : Po) (mv : Value) : (P.C mv)[1666]? = some mv := by
  unfold Po.C
  rw [List.getElem?_append_right (by rw [plsC_len]; omega), plsC_len]
  rfl
theorem Po.set_at (P : Po) (mv : Value) (i j : Nat) (hi : i < 16) (hj : j < 104) (v : Value) (x : Pl) (hx : (P.S i).C.set j v = x.C) : (P.C mv).set (i * 104 + j) v = Po.C ⟨P.m, P.h, upd P.S i x⟩ mv := by
  obtain ⟨post, hp⟩ := plsC_split P.S i 16 hi
  have e := hp (P.S i)
  rw [upd_self] at e
  unfold Po.C
  rw [e, hp x, ← hx, List.append_assoc, List.append_assoc, List.append_assoc, List.append_assoc, List.set_append_right _ _ (by rw [plsC_len]; omega), plsC_len, List.set_append_left _ _ (by rw [Pl.len]; omega)]
  congr 3
  omega
theorem Po.set_h (P : Po) (mv : Value) (k : Nat) : (P.C mv).set 1665 (.int .i64 (k : Int)) = Po.C ⟨P.m, k, P.S⟩ mv := by
  unfold Po.C
  rw [List.set_append_right _ _ (by rw [plsC_len]; omega), plsC_len]
  rfl
theorem Po.set_w (P : Po) (mv u : Value) : (P.C mv).set 1666 u = P.C u := by
  unfold Po.C
  rw [List.set_append_right _ _ (by rw [plsC_len]; omega), plsC_len]
  rfl
theorem Po.placeP {w : World} {b T : Nat} {P : Po} {mv : Value} {i : Nat} (h : Blk w b T (P.C mv)) (hi : i < 16) (x : Pl) : Blk (w.setCells b (i * 104) x.C) b T (Po.C ⟨P.m, P.h, upd P.S i x⟩ mv) := by
  obtain ⟨post, hp⟩ := plsC_split P.S i 16 hi
  have e := hp (P.S i)
  rw [upd_self] at e
  unfold Po.C at h ⊢
  rw [e, List.append_assoc] at h
  rw [hp x, List.append_assoc]
  exact h.part (plsC_len _ _) (by rw [Pl.len, Pl.len])
theorem Po.frameP {w : World} {b T : Nat} {P : Po} {mv : Value} {i : Nat} (h : Blk w b T (P.C mv)) (hi : i < 16) (f : Fr) : Blk (w.setCells b (i * 104) f.C) b T (Po.C ⟨P.m, P.h, upd P.S i ⟨f, (P.S i).pn, (P.S i).us⟩⟩ mv) := by
  obtain ⟨post, hp⟩ := plsC_split P.S i 16 hi
  have e := hp (P.S i)
  rw [upd_self] at e
  unfold Po.C at h ⊢
  rw [e] at h
  rw [hp _]
  unfold Pl.C at h ⊢
  simp only [List.append_assoc] at h ⊢
  rw [← List.append_assoc] at h ⊢
  exact h.part (plsC_len _ _) (by rw [Fr.len, Fr.len])
theorem Fr.at_pg (x : Fr) : x.C[0]? = some (.int .i64 x.pg) := rfl
theorem Fr.at_md (x : Fr) : x.C[1]? = some (.int .i64 x.md) := rfl
theorem Pl.at_f (x : Pl) (j : Nat) (hj : j < 102) : x.C[j]? = x.f.C[j]? := by
  unfold Pl.C
  rw [List.getElem?_append_left (by rw [Fr.len]; exact hj)]
theorem Pl.at_pn (x : Pl) : x.C[102]? = some (.int .i64 (x.pn : Int)) := by
  unfold Pl.C
  rw [List.getElem?_append_right (by rw [Fr.len]; omega), Fr.len]
  rfl
theorem Pl.at_us (x : Pl) : x.C[103]? = some (.bool x.us) := by
  unfold Pl.C
  rw [List.getElem?_append_right (by rw [Fr.len]; omega), Fr.len]
  rfl
theorem Pl.set_pn (x : Pl) (n : Nat) : x.C.set 102 (.int .i64 (n : Int)) = Pl.C ⟨x.f, n, x.us⟩ := by
  unfold Pl.C
  rw [List.set_append_right _ _ (by rw [Fr.len]; omega), Fr.len]
  rfl
theorem Pl.set_us (x : Pl) (u : Bool) : x.C.set 103 (.bool u) = Pl.C ⟨x.f, x.pn, u⟩ := by
  unfold Pl.C
  rw [List.set_append_right _ _ (by rw [Fr.len]; omega), Fr.len]
  rfl
theorem Po.frameR {w : World} {b T : Nat} {P : Po} {mv : Value} {i : Nat} (h : Blk w b T (P.C mv)) (hi : i < 16) : w.rangeAt b (i * 104) (P.S i).f.C := h.rangeIn _ (fun j hj => by
  rw [Fr.len] at hj
  rw [P.at mv i j hi (by omega), (P.S i).at_f j hj])
/-- The document's places. -/
def Pl.D (x : Pl) : List Value := .bool x.bz :: x.C
theorem Pl.lenD (x : Pl) : x.D.length = 105 := by simp [Pl.D, Pl.len]
def plsD (S : Nat → Pl) : Nat → List Value
  | 0 => []
  | n + 1 => plsD S n ++ (S n).D
theorem plsD_len (S : Nat → Pl) : ∀ n, (plsD S n).length = n * 105
  | 0 => rfl
  | n + 1 => by rw [plsD, List.length_append, plsD_len S n, Pl.lenD]; omega
theorem Pl.oneD (x : Pl) : ∀ v ∈ x.D, v.oneCell' = true := by
  intro v hv
  rcases List.mem_cons.1 hv with rfl | hv
  · rfl
  · exact x.one v hv
theorem plsD_one (S : Nat → Pl) : ∀ n, ∀ v ∈ plsD S n, v.oneCell' = true
  | 0 => fun v hv => by cases hv
  | n + 1 => fun v hv => by
    rcases List.mem_append.1 hv with h | h
    · exact plsD_one S n v h
    · exact (S n).oneD v h
theorem plsD_same {S R : Nat → Pl} : ∀ n, (∀ i, i < n → S i = R i) → plsD S n = plsD R n
  | 0, _ => rfl
  | n + 1, h => by rw [plsD, plsD, plsD_same n (fun i hi => h i (by omega)), h n (by omega)]
theorem plsD_split (S : Nat → Pl) (i : Nat) : ∀ n, i < n → ∃ post, ∀ x, plsD (upd S i x) n = plsD S i ++ x.D ++ post := by
  intro n
  induction n with
  | zero => intro h; omega
  | succ n ih =>
    intro h
    by_cases hi : i = n
    · subst hi
      refine ⟨[], fun x => ?_⟩
      rw [plsD, upd_same, List.append_nil, plsD_same i (fun j hj => upd_ne S x (by omega))]
    · obtain ⟨post, hp⟩ := ih (by omega)
      refine ⟨post ++ (S n).D, fun x => ?_⟩
      rw [plsD, hp x, upd_ne S x (by omega), List.append_assoc]
theorem plsD_at (S : Nat → Pl) (n : Nat) (post : List Value) (i j : Nat) (hi : i < n) (hj : j < 105) : (plsD S n ++ post)[i * 105 + j]? = (S i).D[j]? := by
  obtain ⟨p2, hp⟩ := plsD_split S i n hi
  have e := hp (S i)
  rw [upd_self] at e
  rw [e, List.append_assoc, List.append_assoc, List.getElem?_append_right (by rw [plsD_len]; omega), plsD_len, List.getElem?_append_left (by rw [Pl.lenD]; omega)]
  congr 1
  omega
theorem plsD_set (S : Nat → Pl) (n : Nat) (post : List Value) (i j : Nat) (hi : i < n) (hj : j < 105) (v : Value) (x : Pl) (hx : (S i).D.set j v = x.D) : (plsD S n ++ post).set (i * 105 + j) v = plsD (upd S i x) n ++ post := by
  obtain ⟨p2, hp⟩ := plsD_split S i n hi
  have e := hp (S i)
  rw [upd_self] at e
  rw [e, hp x, ← hx, List.append_assoc, List.append_assoc, List.append_assoc, List.append_assoc, List.set_append_right _ _ (by rw [plsD_len]; omega), plsD_len, List.set_append_left _ _ (by rw [Pl.lenD]; omega)]
  congr 3
  omega
theorem plsD_put {w : World} {b T : Nat} {S : Nat → Pl} {n : Nat} {post : List Value} {i : Nat} (h : Blk w b T (plsD S n ++ post)) (hi : i < n) (x : Pl) : Blk (w.setCells b (i * 105) x.D) b T (plsD (upd S i x) n ++ post) := by
  obtain ⟨p2, hp⟩ := plsD_split S i n hi
  have e := hp (S i)
  rw [upd_self] at e
  rw [e, List.append_assoc] at h
  rw [hp x, List.append_assoc]
  exact h.part (plsD_len _ _) (by rw [Pl.lenD, Pl.lenD])
theorem Pl.D_f (x : Pl) (j : Nat) (hj : j < 102) : x.D[1 + j]? = x.f.C[j]? := by
  rw [Nat.add_comm]
  unfold Pl.D
  rw [List.getElem?_cons_succ]
  exact x.at_f j hj
theorem Pl.D_is (x : Pl) : x.D[0]? = some (.bool x.bz) := rfl
theorem Pl.D_pn (x : Pl) : x.D[103]? = some (.int .i64 (x.pn : Int)) := by
  unfold Pl.D
  rw [List.getElem?_cons_succ]
  exact x.at_pn
theorem Pl.D_us (x : Pl) : x.D[104]? = some (.bool x.us) := by
  unfold Pl.D
  rw [List.getElem?_cons_succ]
  exact x.at_us
theorem Pl.setD_pn (x : Pl) (n : Nat) : x.D.set 103 (.int .i64 (n : Int)) = Pl.D ⟨x.f, n, x.us⟩ := by
  unfold Pl.D
  rw [List.set_cons_succ, x.set_pn]
  rfl
theorem Pl.setD_us (x : Pl) (u : Bool) : x.D.set 104 (.bool u) = Pl.D ⟨x.f, x.pn, u⟩ := by
  unfold Pl.D
  rw [List.set_cons_succ, x.set_us]
  rfl

end Go.Proofs.Ytgnafbohikbpfaa
