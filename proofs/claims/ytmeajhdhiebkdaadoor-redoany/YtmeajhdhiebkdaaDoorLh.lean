/-
  What stands at the places of a log, from a number on.
-/
import Derived.Test.YtmeajhdhiebkdaaDoorLr
import Derived.Test.YtmeajhdhiebkdaaDoorRcGet
import Derived.Test.YtmeajhdhiebkdaaDoorDvRd
namespace Go.Proofs.YtmeajhdhiebkdaaDoor
set_option maxRecDepth 100000
open Go.RowKit Go.Shelf
attribute [local go_sem] Oper.semAt_some

/-- What is read at a number's place. -/
def gotA (D : Dv.Dev) (J : Ar.Job) (nd s : Int) : Rc.Rec × Int := Rc.getR (D.read (J.record nd s).1).1 (D.read ((J.record nd s).1 + 1)).1
def laidF (D : Dv.Dev) (J : Ar.Job) (nd : Int) : Int → Nat → List Rc.Rec
  | _, 0 => []
  | s, m + 1 => if (gotA D J nd s).2 = 0 then (gotA D J nd s).1 :: laidF D J nd (s + 1) m else []
def laidN (J : Ar.Job) (st : Int) : Nat := (min (st + J.l) 2147483647 - st).toNat
def laidS (D : Dv.Dev) (J : Ar.Job) (nd st : Int) : List Rc.Rec := laidF D J nd st (laidN J st)
theorem nought_byts : Rc.Byts 64 Dv.nought := ⟨Dv.nought_sec.1, Dv.nought_sec.2⟩
theorem read_byts {D : Dv.Dev} (hD : D.Ok) (x : Int) : Rc.Byts 64 (D.read x).1 := by
  unfold Dv.Dev.read
  split
  · show Rc.Byts 64 (D.S.getD x.toNat Dv.nought)
    by_cases hx : x.toNat < D.S.length
    · rw [List.getD_eq_getElem?_getD, List.getElem?_eq_getElem hx]
      have := hD.sec _ (List.getElem_mem hx)
      exact ⟨this.1, this.2⟩
    · rw [List.getD_eq_getElem?_getD, List.getElem?_eq_none (by omega)]
      exact nought_byts
  · exact nought_byts
theorem box31 (b : Nat) (w : World) : (Instr.box 31 (P0 b)).run Tryd.prog w = .ok (P0 w.heap.size) (w.alloc (.cells [P0 b].toArray 31)) := by kernel_rfl
theorem box2 (k : Int) (w : World) : (Instr.box 2 (.int .i64 k)).run Tryd.prog w = .ok (P0 w.heap.size) (w.alloc (.cells [Value.int .i64 k].toArray 2)) := by kernel_rfl
def lvV (p1 p2 p3 p4 : Nat) : Value := .func (.func 91) #[] #[P0 p1, P0 p2, P0 p3, P0 p4]
structure Lv (W : World) (p1 p2 p3 p4 b : Nat) (J : Ar.Job) (nd st : Int) : Prop where
  j : Blk W p1 23 (Ar.jobC J)
  n : Blk W p2 3 [.int .i64 nd]
  s : Blk W p3 2 [.int .i64 st]
  d : Blk W p4 31 [P0 b]
theorem Lv.kept {W W' : World} {p1 p2 p3 p4 b : Nat} {J : Ar.Job} {nd st : Int} (h : Lv W p1 p2 p3 p4 b J nd st) (hk : Kept [] W W') : Lv W' p1 p2 p3 p4 b J nd st := ⟨h.j.kept hk (by simp), h.n.kept hk (by simp), h.s.kept hk (by simp), h.d.kept hk (by simp)⟩
theorem KeptJ.lv {W W' : World} {p1 p2 p3 p4 b : Nat} {J : Ar.Job} {nd st : Int} (hk : KeptJ W W') (h : Lv W p1 p2 p3 p4 b J nd st) : Lv W' p1 p2 p3 p4 b J nd st := ⟨hk.blk h.j (by decide) (by decide), hk.blk h.n (by decide) (by decide), hk.blk h.s (by decide) (by decide), hk.blk h.d (by decide) (by decide)⟩
theorem laid82 (b : Nat) (J : Ar.Job) (nd st : Int) (w : World) : Calls Tryd.prog 82 #[P0 b, aggV (Ar.jobC J), .int .i64 nd, .int .i64 st] w fun e w' => ∃ p1 p2 p3 p4, e = .returned (lvV p1 p2 p3 p4) ∧ Lv w' p1 p2 p3 p4 b J nd st ∧ Kept [] w w' := by
  go_enter Tryd.func82, Tryd.ntmps82
  go_wp2_with (
    first
    | (refine wpBox1 (T := 31) (P0 b) (box31 b) (by rfl) (.tmp 0) (by rfl) (by kernel_rfl) ?_
       intro W4 p4 e4 B4 K4
       have H4 := hide B4
       have HK := hide K4
       clear e4 B4 K4
       refine Stp.go ?_))
  constructor
  go_wp2_with (
    first
    | (refine wpBoxV (by rfl) (.tmp 1) (by rfl) (Ar.jobC J) (by kernel_rfl) ?_
       intro W1 p1 e1 B1 K1
       have H1 := hide B1
       replace H4 := hide ((unhide H4).kept K1 (by simp))
       replace HK := hide ((unhide HK).trans K1)
       clear e1 B1 K1
       refine Stp.go ?_))
  constructor
  go_wp2_with (
    first
    | (refine wpBox1 (T := 3) (.int .i64 nd) (box3 nd) (by rfl) (.tmp 2) (by rfl) (by kernel_rfl) ?_
       intro W2 p2 e2 B2 K2
       have H2 := hide B2
       replace H4 := hide ((unhide H4).kept K2 (by simp))
       replace H1 := hide ((unhide H1).kept K2 (by simp))
       replace HK := hide ((unhide HK).trans K2)
       clear e2 B2 K2
       refine Stp.go ?_))
  constructor
  go_wp2_with (
    first
    | (refine wpBox1 (T := 2) (.int .i64 st) (box2 st) (by rfl) (.tmp 3) (by rfl) (by kernel_rfl) ?_
       intro W3 p3 e3 B3 K3
       have H3 := hide B3
       replace H4 := hide ((unhide H4).kept K3 (by simp))
       replace H1 := hide ((unhide H1).kept K3 (by simp))
       replace H2 := hide ((unhide H2).kept K3 (by simp))
       replace HK := hide ((unhide HK).trans K3)
       clear e3 B3 K3))
  go_ret
  exact ⟨p1, p2, p3, p4, rfl, ⟨unhide H1, unhide H2, unhide H3, unhide H4⟩, unhide HK⟩
theorem get92 (a b : List Int) (ha : Rc.Byts 64 a) (hb : Rc.Byts 64 b) (w : World) : Calls Tryd.prog 92 #[aggV (u8s a), aggV (u8s b)] w fun e w' => e = .returned (.tuple #[aggV (Rc.recC (Rc.getR a b).1), .int .i64 (Rc.getR a b).2]) ∧ Kept [] w w' := Rc.get16 a b ha hb w
theorem read56 (b g : Nat) (D : Dv.Dev) (x : Int) (w : World) (h : Dv.Dv w b g D) (hx : -9223372036854775808 ≤ x ∧ x ≤ 9223372036854775807) : Calls Tryd.prog 56 #[P0 b, .int .i64 x] w fun e w' => e = .returned (.tuple #[aggV (u8s (D.read x).1), .int .i64 (D.read x).2]) ∧ Kept [] w w' := Dv.read26 b g D x w h hx
theorem cg56 (vs : Array Value) (w : World) : (callFunc 56 vs).run Tryd.prog w = .ok (.enter 56 vs) w := by kernel_rfl
/-- What a region keeps that makes a sector's variable and fills it. -/
@[reducible] def SA (V : World) (ia im : Nat) (a : List Int) (d : Nat → Bool) (vs : Nat → Value) (W : World) : Prop :=
  Kept [] V W ∧ (d ia = true → ∃ p, vs ia = P0 p ∧ V.heap.size ≤ p ∧ (d im = false → Blk W p 80 (u8s (Rc.zs 64))) ∧ (d im = true → Blk W p 80 (u8s a)))
theorem SA.loc {V : World} {ia im : Nat} {a : List Int} : ∀ d d' vs vs' W, (∀ i ∈ [ia, im], d i = d' i ∧ vs i = vs' i) → SA V ia im a d vs W → SA V ia im a d' vs' W := by
  intro d d' vs vs' W H h
  have e0 := H ia (by simp)
  have e1 := H im (by simp)
  unfold SA at h ⊢
  rw [← e0.1, ← e0.2, ← e1.1]
  exact h
theorem SA.kept {V : World} {ia im : Nat} {a : List Int} {d : Nat → Bool} {vs : Nat → Value} {W W' : World} (h : SA V ia im a d vs W) (hk : Kept [] W W') : SA V ia im a d vs W' :=
  ⟨h.1.trans hk, fun hd => by obtain ⟨p, e, h1, h2, h3⟩ := h.2 hd; exact ⟨p, e, h1, fun hh => (h2 hh).kept hk (by simp), fun hh => (h3 hh).kept hk (by simp)⟩⟩

end Go.Proofs.YtmeajhdhiebkdaaDoor
