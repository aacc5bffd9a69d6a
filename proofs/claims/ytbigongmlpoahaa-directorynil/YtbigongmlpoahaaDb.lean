/-
  Directories in memory; their small functions.
-/
import Derived.Test.YtbigongmlpoahaaDa
import Derived.Test.YtbigongmlpoahaaFo
import Derived.Test.YtbigongmlpoahaaPa
namespace Go.Proofs.Ytbigongmlpoahaa.D
set_option maxRecDepth 100000
set_option linter.unusedSimpArgs false
open Go.RowKit


/-- A page's lock: the page, where it lies, its row of wishes, what it is. -/
structure Lk where
  k : Int
  p : Nat
  ln : Value
  s : Lo
  q : List Wi
def Lk.e (x : Lk) : En := ⟨x.k, x.p⟩
/-- Two locks lie apart. -/
def Lk.Ap (x y : Lk) : Prop := x.p ≠ y.p ∧ ∀ i, x.ln.ownBlock = some i → y.ln.ownBlock ≠ some i
theorem Lk.Ap.symm {x y : Lk} (h : x.Ap y) : y.Ap x := ⟨Ne.symm h.1, fun i hi e => h.2 i e hi⟩
/-- A lock in memory that at most A calls have seen. -/
structure Lc (A : Nat) (W : World) (x : Lk) : Prop where
  blk : Blk W x.p 108 (x.s.C x.ln)
  row : Ws W x.ln x.q
  gd : Gd A x.s x.q
theorem Lc.sd {A : Nat} {W : World} {x : Lk} (h : Lc A W x) (hA : A ≤ 900) : Sd W x.p x.ln x.s x.q := h.gd.sd hA h.blk h.row
theorem Lc.kept {A : Nat} {W W' : World} {x : Lk} {X : List Nat} (h : Lc A W x) (hk : Kept X W W') (h1 : x.p ∉ X) (h2 : ∀ i, x.ln.ownBlock = some i → i ∉ X) : Lc A W' x := ⟨h.blk.kept hk h1, h.row.kept hk h2, h.gd⟩
/-- A directory stands in memory. -/
structure Dg (A : Nat) (W : World) (b mb : Nat) (L : List Lk) : Prop where
  blk : Blk W b 55 [.map (some mb)]
  map : MapAt W mb (L.map Lk.e)
  lk : ∀ x ∈ L, Lc A W x
  may : ∀ x ∈ L, 0 ≤ x.k ∧ x.k < 16
  nd : (L.map Lk.k).Nodup
  ap : L.Pairwise Lk.Ap
/-- None: nil, or a zero one. -/
def Nil (W : World) (v : Value) : Prop := v = .pointer none ∨ ∃ b, v = P0 b ∧ Blk W b 55 [.map none]
variable {A : Nat} {w W W' : World} {b mb : Nat} {L : List Lk} {v : Value} {X : List Nat}
theorem Dg.step (h : Dg A W b mb L) (hk : Kept X W W') (h1 : b ∉ X) (h2 : mb ∉ X) (h3 : ∀ x ∈ L, x.p ∉ X ∧ ∀ i, x.ln.ownBlock = some i → i ∉ X) : Dg A W' b mb L :=
  ⟨h.blk.kept hk h1, h.map.kept hk h2, fun x hx => (h.lk x hx).kept hk (h3 x hx).1 (h3 x hx).2, h.may, h.nd, h.ap⟩
theorem Dg.step0 (h : Dg A W b mb L) (hk : Kept [] W W') : Dg A W' b mb L := h.step hk (by simp) (by simp) (fun _ _ => ⟨by simp, fun _ _ => by simp⟩)
theorem Dg.cw (h : Dg A W b mb L) : W.cell? ⟨b, 0, none⟩ = some (.map (some mb)) := fits_cell h.blk 0 _ rfl
theorem Dg.ne (h : Dg A W b mb L) : b ≠ mb := map_not_cells h.map h.blk
theorem Nil.step (h : Nil W v) (hk : Kept [] W W') : Nil W' v := by
  rcases h with rfl | ⟨b, rfl, h⟩
  · exact .inl rfl
  · exact .inr ⟨b, rfl, h.kept hk (by simp)⟩
theorem Nil.ptr (h : Nil W v) : ∃ p, v = .pointer p := by
  rcases h with rfl | ⟨b, rfl, _⟩
  · exact ⟨_, rfl⟩
  · exact ⟨_, rfl⟩
theorem eqm53 (mb : Nat) (W : World) : Sem.run Try.prog (binOp BinOp.eql 53 (.map (some mb)) (.map none)) W = .ok (.bool false) W := by kernel_rfl
theorem eqm53z (W : World) : Sem.run Try.prog (binOp BinOp.eql 53 (.map none) (.map none)) W = .ok (.bool true) W := by kernel_rfl
theorem none35 (h : Dg A w b mb L) : Calls Try.prog 35 #[P0 b] w fun e w' => e = .returned (.bool false) ∧ w' = w := by
  have c0 := h.cw
  have hq := eqm53 mb
  clear h
  go_enter Try.func35, Try.ntmps35
  go_wp2
  go_ret
  exact ⟨rfl, rfl⟩
theorem none35_z (h : Nil w v) : Calls Try.prog 35 #[v] w fun e w' => e = .returned (.bool true) ∧ w' = w := by
  have hq := eqm53z
  rcases h with rfl | ⟨b, rfl, h⟩
  · go_enter Try.func35, Try.ntmps35
    go_wp2
    go_ret
    exact ⟨rfl, rfl⟩
  · have c0 := fits_cell h 0 _ rfl
    clear h
    go_enter Try.func35, Try.ntmps35
    go_wp2
    go_ret
    exact ⟨rfl, rfl⟩
/-- A page that may be. -/
def isP (n : Int) : Bool := decide (0 ≤ n) && decide (n < 16)
theorem isPage60 (n : Int) (w : World) : Calls Try.prog 60 #[.int .i64 n] w fun e W => e = .returned (.bool (isP n)) ∧ W = w := by
  by_cases h1 : 0 ≤ n
  · have d1 : decide (0 ≤ n) = true := by simpa using h1
    have d2 : decide (n ≥ 0) = true := by simpa using h1
    have e1 : isP n = decide (n < 16) := by unfold isP; rw [d1]; rfl
    rw [e1]
    go_enter Try.func60, Try.ntmps60
    go_wp2
    go_ret
    exact ⟨rfl, rfl⟩
  · have d1 : decide (0 ≤ n) = false := by simpa using h1
    have d2 : decide (n ≥ 0) = false := by simpa using h1
    have e1 : isP n = false := by unfold isP; rw [d1]; rfl
    rw [e1]
    go_enter Try.func60, Try.ntmps60
    go_wp2
    go_ret
    exact ⟨rfl, rfl⟩

end Go.Proofs.Ytbigongmlpoahaa.D
