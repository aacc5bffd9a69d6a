/-
  A session and the document's, side by side.
-/
import Derived.Test.YthbgnpbkdeofcaaRa
import Derived.Test.YthbgnpbkdeofcaaSq
namespace Go.Proofs.Ythbgnpbkdeofcaa
set_option maxRecDepth 100000
open Go.RowKit

structure Du (w W : World) (b : Nat) (v : Value) (ws : List Value) (P : Ps) (r : Nat) (rv : Value) (rs : List Value) (R : Ps) : Prop where
  sm : Sm w W b v ws P
  rx : Rx W r rv rs R
  rge : w.heap.size ≤ r ∧ ∀ i, rv.ownBlock = some i → w.heap.size ≤ i
  ap : ∀ k, v.ownBlock = some k → rv.ownBlock ≠ some k
theorem Du.step {w W W' : World} {b : Nat} {v : Value} {ws : List Value} {P : Ps} {r : Nat} {rv : Value} {rs : List Value} {R : Ps} (h : Du w W b v ws P r rv rs R) (hk : Kept [] W W') : Du w W' b v ws P r rv rs R := ⟨h.sm.step hk, h.rx.kept0 hk, h.rge, h.ap⟩
theorem Du.k {w W : World} {b : Nat} {v : Value} {ws : List Value} {P : Ps} {r : Nat} {rv : Value} {rs : List Value} {R : Ps} (h : Du w W b v ws P r rv rs R) : Kept [] w W := h.sm.k
theorem Du.mutS {w W W' : World} {b : Nat} {v v' : Value} {ws ws' : List Value} {P P' : Ps} {r : Nat} {rv : Value} {rs : List Value} {R : Ps} (h : Du w W b v ws P r rv rs R) (g : SR W b v ws W' v' ws' P') : Du w W' b v' ws' P' r rv rs R := by
  refine ⟨h.sm.mut g, h.rx.kept g.kept (h.sm.sx.notin h.rx.head (by decide) (by decide)) (fun k e hm => ?_) (fun u hu k e => ?_), h.rge, fun k e e2 => ?_⟩
  · rcases List.mem_cons.1 hm with rfl | hm
    · obtain ⟨cs, hc⟩ := h.rx.row.block k e
      have := h.sm.sx.head
      unfold Blk at this
      rw [hc] at this
      cases this
    · exact h.ap k (by simpa using hm) e
  · obtain ⟨bs, hb⟩ := h.rx.bod hu
    exact h.sm.sx.away hb k e
  · rcases g.own k e with e1 | e1
    · exact h.ap k e1 e2
    · have := h.rx.lt.2.1 k e2; omega
theorem Du.mutR {w W W' : World} {b : Nat} {v : Value} {ws : List Value} {P : Ps} {r : Nat} {rv rv' : Value} {rs rs' : List Value} {R R' : Ps} (h : Du w W b v ws P r rv rs R) (g : RR W r rv rs W' rv' rs' R') : Du w W' b v ws P r rv' rs' R' := by
  have hin : ∀ i ∈ r :: rv.ownBlock.toList, w.heap.size ≤ i := by
    intro i hi
    rcases List.mem_cons.1 hi with rfl | hi
    · exact h.rge.1
    · exact h.rge.2 i (by simpa using hi)
  have hs := h.k.size
  refine ⟨⟨h.sm.sx.kept g.kept (h.rx.notin h.sm.sx.head (by decide) (by decide)) (fun k e hm => ?_) (fun u hu k e => ?_), h.k.fresh g.kept (fun i hi hl => by have := hin i hi; omega), h.sm.ge⟩, g.sx, ⟨h.rge.1, fun i hi => ?_⟩, fun k e e2 => ?_⟩
  · rcases List.mem_cons.1 hm with rfl | hm
    · obtain ⟨cs, hc⟩ := h.sm.sx.row.block k e
      have := h.rx.head
      unfold Blk at this
      rw [hc] at this
      cases this
    · exact h.ap k e (by simpa using hm)
  · obtain ⟨bs, hb⟩ := h.sm.sx.bod hu
    exact h.rx.away hb k e
  · rcases g.own i hi with h1 | h1
    · exact h.rge.2 i h1
    · omega
  · rcases g.own k e2 with e1 | e1
    · exact h.ap k e e1
    · have := h.sm.sx.lt.2.1 k e; omega
/-- What others write over touches neither. -/
theorem Du.spoil {w W W' : World} {b : Nat} {v : Value} {ws : List Value} {P : Ps} {r : Nat} {rv : Value} {rs : List Value} {R : Ps} {X : List Nat} (h : Du w W b v ws P r rv rs R) (hk : Kept X W W') (hX : ∀ k ∈ X, ∃ cs p, W.heap[k]? = some (Obj.cells cs 5 p)) (h1 : ∀ u ∈ ws, ∀ k, u.ownBlock = some k → k ∉ X) (h2 : ∀ u ∈ rs, ∀ k, u.ownBlock = some k → k ∉ X) (h3 : ∀ k ∈ X, w.heap.size ≤ k) : Du w W' b v ws P r rv rs R := by
  have hno : ∀ (p T : Nat) (cs : Array Value) (q : Nat × Nat), T ≠ 5 → W.heap[p]? = some (Obj.cells cs T q) → p ∉ X := fun p T cs q hT hp hm => by
    obtain ⟨cs', q', hc⟩ := hX p hm
    rw [hc] at hp
    cases hp
    exact hT rfl
  refine ⟨⟨h.sm.sx.kept hk (hno _ _ _ _ (by decide) h.sm.sx.head) (fun k e => ?_) h1, h.k.fresh hk (fun i hi hl => by have := h3 i hi; omega), h.sm.ge⟩, h.rx.kept hk (hno _ _ _ _ (by decide) h.rx.head) (fun k e => ?_) h2, h.rge, h.ap⟩
  · obtain ⟨cs, hc⟩ := h.sm.sx.row.block k e
    exact hno _ _ _ _ (by decide) hc
  · obtain ⟨cs, hc⟩ := h.rx.row.block k e
    exact hno _ _ _ _ (by decide) hc
/-- A body's block is none of those of a row. -/
def Nc (u0 : Value) (ws : List Value) : Prop := ∀ u ∈ ws, ∀ k, u.ownBlock = some k → u0.ownBlock ≠ some k
theorem Du.spoil1 {w W W' : World} {b : Nat} {v : Value} {ws : List Value} {P : Ps} {r : Nat} {rv : Value} {rs : List Value} {R : Ps} {g i c m : Nat} {us : List Value} {x u0 : Value} (h : Du w W b v ws P r rv rs R) (hu : u0 = .slice (some ⟨g, 0, none⟩) m c) (hB : Blk W g 5 us) (_ : Blk W' g 5 (us.set i x)) (hk : Kept [g] W W') (h1 : Nc u0 ws) (h2 : Nc u0 rs) (h3 : w.heap.size ≤ g) : Du w W' b v ws P r rv rs R :=
  h.spoil hk (fun k hm => by simp at hm; subst hm; exact ⟨_, _, hB⟩) (fun u hu' k e hm => by simp at hm; subst hm; exact h1 u hu' k e (by rw [hu]; rfl)) (fun u hu' k e hm => by simp at hm; subst hm; exact h2 u hu' k e (by rw [hu]; rfl)) (fun k hm => by simp at hm; subst hm; exact h3)
theorem tell_len (P : Ps) (f : Nat) : (P.tellL f).length ≤ P.sent.length + 1 := by
  unfold Ps.tellL Ps.waitL
  split
  · simp
  · simp; omega
theorem tell_small {P : Ps} (h : P.Ok) (f : Nat) : ∀ d ∈ P.tellL f, d.bs.length ≤ 256 := by
  intro d hd
  unfold Ps.tellL Ps.waitL at hd
  split at hd
  · simp at hd
    subst hd
    simp [Ps.dg]
  · obtain ⟨i, hi, rfl⟩ := List.mem_map.1 hd
    rw [List.mem_range] at hi
    show (P.sent.getD (f + i) []).length ≤ 256
    rw [List.getD_eq_getElem?_getD, List.getElem?_eq_getElem (by omega)]
    exact h.small _ (List.getElem_mem _)
/-- Both tell the same; then what was told is written over. -/
structure Td (w W0 W : World) (b : Nat) (v : Value) (ws : List Value) (r : Nat) (rv : Value) (rs : List Value) (R : Ps) (D : List Dg) (dv : Value) (L : List (Dg × Value)) (P : Ps) : Prop where
  du : Du w W b v ws P.toldP r rv rs R
  dl : Dl W W0.heap.size dv L
  map : L.map Prod.fst = D
  ws : ∀ u ∈ ws, ∀ k, u.ownBlock = some k → k < W0.heap.size
  rs : ∀ u ∈ rs, ∀ k, u.ownBlock = some k → k < W0.heap.size
  k : Kept [] w W0
theorem Td.of {w W0 W : World} {b : Nat} {v : Value} {ws : List Value} {P : Ps} {r : Nat} {rv : Value} {rs : List Value} {R : Ps} {D : List Dg} {dv : Value} {L : List (Dg × Value)} (h : Du w W0 b v ws P r rv rs R) (hD : Dl W W0.heap.size dv L) (hm : L.map Prod.fst = D) (g : SR W0 b v ws W v ws P.toldP) : Td w W0 W b v ws r rv rs R D dv L P :=
  ⟨h.mutS g, hD, hm, h.sm.sx.lt.2.2, h.rx.lt.2.2, h.k⟩
theorem Td.mutR {w W0 W W' : World} {b : Nat} {v : Value} {ws : List Value} {P : Ps} {r : Nat} {rv : Value} {rs : List Value} {R : Ps} {D : List Dg} {dv : Value} {L : List (Dg × Value)} {R' : Ps} (h : Td w W0 W b v ws r rv rs R D dv L P) (g : RR W r rv rs W' rv rs R') : Td w W0 W' b v ws r rv rs R' D dv L P :=
  ⟨h.du.mutR g, g.dl h.du.rx h.dl, h.map, h.ws, h.rs, h.k⟩
theorem Td.step {w W0 W W' : World} {b : Nat} {v : Value} {ws : List Value} {P : Ps} {r : Nat} {rv : Value} {rs : List Value} {R : Ps} {D : List Dg} {dv : Value} {L : List (Dg × Value)} (h : Td w W0 W b v ws r rv rs R D dv L P) (hk : Kept [] W W') : Td w W0 W' b v ws r rv rs R D dv L P :=
  ⟨h.du.step hk, h.dl.kept0 hk, h.map, h.ws, h.rs, h.k⟩
theorem Td.over {w W0 W W' : World} {b : Nat} {v : Value} {ws : List Value} {P : Ps} {r : Nat} {rv : Value} {rs : List Value} {R : Ps} {D : List Dg} {dv : Value} {L : List (Dg × Value)} (h : Td w W0 W b v ws r rv rs R D dv L P) (hk : Kept (bodX L) W W') : Du w W' b v ws P.toldP r rv rs R := by
  have hs := h.k.size
  refine h.du.spoil hk (fun k hm => ?_) (fun u hu k e hm => ?_) (fun u hu k e hm => ?_) (fun k hm => ?_)
  · obtain ⟨p, hp, hk⟩ := mem_bodX hm
    obtain ⟨cs, hc⟩ := (h.dl.bod p hp).block k hk
    exact ⟨cs, _, hc⟩
  · obtain ⟨p, hp, hk⟩ := mem_bodX hm
    have h1 := h.dl.new p hp k hk
    have h2 := h.ws u hu k e
    omega
  · obtain ⟨p, hp, hk⟩ := mem_bodX hm
    have h1 := h.dl.new p hp k hk
    have h2 := h.rs u hu k e
    omega
  · obtain ⟨p, hp, hk⟩ := mem_bodX hm
    have h1 := h.dl.new p hp k hk
    omega

end Go.Proofs.Ythbgnpbkdeofcaa
