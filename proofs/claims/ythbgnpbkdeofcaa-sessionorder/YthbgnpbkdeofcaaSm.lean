/-
  Sessions that a law keeps.
-/
import Derived.Test.YthbgnpbkdeofcaaSl
namespace Go.Proofs.Ythbgnpbkdeofcaa
set_option maxRecDepth 100000
open Go.RowKit

/-- A session that was made since w. -/
structure Sm (w W : World) (b : Nat) (v : Value) (ws : List Value) (P : Ps) : Prop where
  sx : Sx W b v ws P
  k : Kept [] w W
  ge : w.heap.size ≤ b ∧ ∀ i, v.ownBlock = some i → w.heap.size ≤ i
theorem Sm.step {w W W' : World} {b : Nat} {v : Value} {ws : List Value} {P : Ps} (h : Sm w W b v ws P) (hk : Kept [] W W') : Sm w W' b v ws P := ⟨h.sx.kept0 hk, h.k.trans hk, h.ge⟩
theorem Sm.in {w W : World} {b : Nat} {v : Value} {ws : List Value} {P : Ps} (h : Sm w W b v ws P) : ∀ i ∈ b :: v.ownBlock.toList, w.heap.size ≤ i := by
  intro i hi
  simp only [List.mem_cons, Option.mem_toList] at hi
  rcases hi with rfl | hi
  · exact h.ge.1
  · exact h.ge.2 i hi
theorem Sm.mut {w W W' : World} {b : Nat} {v v' : Value} {ws ws' : List Value} {P P' : Ps} (h : Sm w W b v ws P) (g : SR W b v ws W' v' ws' P') : Sm w W' b v' ws' P' :=
  ⟨g.sx, h.k.fresh g.kept (fun i hi hl => by have := h.in i hi; omega), h.ge.1, fun i hi => by
    rcases g.own i hi with h1 | h1
    · exact h.ge.2 i h1
    · have := h.k.size; omega⟩
theorem Sx.notin {W : World} {b : Nat} {v : Value} {ws : List Value} {P : Ps} (h : Sx W b v ws P) {p T : Nat} {cs : Array Value} {q : Nat × Nat} (hp : W.heap[p]? = some (.cells cs T q)) (h1 : T ≠ 68) (h2 : T ≠ 33) : p ∉ b :: v.ownBlock.toList := by
  simp only [List.mem_cons, Option.mem_toList, not_or]
  refine ⟨?_, ?_⟩
  · rintro rfl
    have := h.head
    unfold Blk at this
    rw [this] at hp
    injection hp with hp
    injection hp with g1 g2
    exact h1 g2.symm
  · intro e
    obtain ⟨cs', hc'⟩ := h.row.block p e
    rw [hc'] at hp
    injection hp with hp
    injection hp with g1 g2
    exact h2 g2.symm
theorem SR.bod {W W' : World} {b : Nat} {v v' : Value} {ws ws' : List Value} {P P' : Ps} (h : SR W b v ws W' v' ws' P') (hs : Sx W b v ws P) {u : Value} {bs : List Int} (hu : Bod W u bs) : Bod W' u bs := hu.kept h.kept (hs.away hu)
theorem SR.blk {W W' : World} {b : Nat} {v v' : Value} {ws ws' : List Value} {P P' : Ps} (h : SR W b v ws W' v' ws' P') (hs : Sx W b v ws P) {p T : Nat} {us : List Value} (hp : Blk W p T us) (h1 : T ≠ 68) (h2 : T ≠ 33) : Blk W' p T us := hp.kept h.kept (hs.notin hp h1 h2)
theorem SR.dl {W W' : World} {b : Nat} {v v' : Value} {ws ws' : List Value} {P P' : Ps} (h : SR W b v ws W' v' ws' P') (hs : Sx W b v ws P) {B : Nat} {dv : Value} {L : List (Dg × Value)} (hd : Dl W B dv L) : Dl W' B dv L :=
  hd.kept h.kept (fun k e => by obtain ⟨cs, hc⟩ := owns_block hd.row k e; exact hs.notin hc (by decide) (by decide)) (fun p hp k e => hs.away (hd.bod p hp) k e)
/-- Two sessions lie apart. -/
structure Ap (b : Nat) (v : Value) (b2 : Nat) (v2 : Value) : Prop where
  ne : b ≠ b2
  v : ∀ k, v.ownBlock = some k → v2.ownBlock ≠ some k
theorem Ap.symm {b : Nat} {v : Value} {b2 : Nat} {v2 : Value} (h : Ap b v b2 v2) : Ap b2 v2 b v := ⟨h.ne.symm, fun k e e' => h.v k e' e⟩
theorem Ap.mut {W W' : World} {b : Nat} {v v' : Value} {ws ws' : List Value} {P' : Ps} {b2 : Nat} {v2 : Value} {ws2 : List Value} {P2 : Ps} (h : Ap b v b2 v2) (g : SR W b v ws W' v' ws' P') (hs2 : Sx W b2 v2 ws2 P2) : Ap b v' b2 v2 :=
  ⟨h.ne, fun k e e2 => by
    rcases g.own k e with h1 | h1
    · exact h.v k h1 e2
    · have := hs2.lt.2.1 k e2; omega⟩
theorem Sx.other {W W' : World} {b : Nat} {v v' : Value} {ws ws' : List Value} {P P' : Ps} {b2 : Nat} {v2 : Value} {ws2 : List Value} {P2 : Ps} (h2 : Sx W b2 v2 ws2 P2) (g : SR W b v ws W' v' ws' P') (hs : Sx W b v ws P) (ha : Ap b v b2 v2) : Sx W' b2 v2 ws2 P2 := by
  refine h2.kept g.kept ?_ (fun k e => ?_) (fun u hu k e => ?_)
  · simp only [List.mem_cons, Option.mem_toList, not_or]
    refine ⟨fun e => ha.ne e.symm, fun e => ?_⟩
    obtain ⟨cs, hc⟩ := hs.row.block b2 e
    have := h2.head
    unfold Blk at this
    rw [hc] at this
    cases this
  · simp only [List.mem_cons, Option.mem_toList, not_or]
    refine ⟨?_, fun e' => ha.v k e' e⟩
    rintro rfl
    obtain ⟨cs, hc⟩ := h2.row.block k e
    have := hs.head
    unfold Blk at this
    rw [hc] at this
    cases this
  · obtain ⟨bs, hb⟩ := h2.bod hu
    exact hs.away hb k e
theorem Sm.other {w W W' : World} {b : Nat} {v v' : Value} {ws ws' : List Value} {P P' : Ps} {b2 : Nat} {v2 : Value} {ws2 : List Value} {P2 : Ps} (h2 : Sm w W b2 v2 ws2 P2) (g : SR W b v ws W' v' ws' P') (hs : Sm w W b v ws P) (ha : Ap b v b2 v2) : Sm w W' b2 v2 ws2 P2 :=
  ⟨h2.sx.other g hs.sx ha, (hs.mut g).k, h2.ge⟩
/-- Come of a datagram whose body is one's own. -/
theorem come20b (b : Nat) (v : Value) (ws : List Value) (P : Ps) (d : Dg) (u : Value) (w : World) (h : Sx w b v ws P) (hB : Bod w u d.bs) : Calls Try.prog 20 #[P0 b, aggV (d.C u)] w fun e w' => CR w b v ws P d e w' := by
  obtain ⟨uo, uc, rfl, hV, hn⟩ := hB.sl
  exact come20 b v ws P d uo d.bs.length uc w h rfl hV hn hB.byte (fun g off _ e => h.away hB g (by rw [e]; rfl))
theorem map_one {d : Dg} {L : List (Dg × Value)} (h : L.map Prod.fst = [d]) : ∃ u, L = [(d, u)] := by
  match L, h with
  | [(a, u)], h => simp at h; subst h; exact ⟨u, rfl⟩
theorem map_two {d d2 : Dg} {L : List (Dg × Value)} (h : L.map Prod.fst = [d, d2]) : ∃ u u2, L = [(d, u), (d2, u2)] := by
  match L, h with
  | [(a, u), (a2, u2)], h => simp at h; obtain ⟨rfl, rfl⟩ := h; exact ⟨u, u2, rfl⟩
theorem Dl.sl {W : World} {B : Nat} {v : Value} {L : List (Dg × Value)} (h : Dl W B v L) (hne : L ≠ []) : ∃ g c, v = .slice (some ⟨g, 0, none⟩) L.length c ∧ B ≤ g := by
  rcases h.row.2 with ⟨_, h2⟩ | ⟨g, cap, cur, h1, h2, _⟩
  · exact absurd (List.length_eq_zero_iff.1 h2) hne
  · exact ⟨g, cap, h1, h2⟩
theorem Dl.blk {W : World} {B g n c : Nat} {L : List (Dg × Value)} (h : Dl W B (.slice (some ⟨g, 0, none⟩) n c) L) : ∃ ex, Blk W g 35 (cellsD L ++ ex) := by
  rcases h.row.2 with ⟨h1, _⟩ | ⟨g', cap, cur, h1, _, h3, _, _, _, h7⟩
  · cases h1
  · cases h1
    refine ⟨cur.toList.drop (L.length * 6), ?_⟩
    unfold Blk
    rw [h3]
    congr 2
    have := List.take_append_drop (L.length * 6) cur.toList
    rw [h7] at this
    rw [this]

end Go.Proofs.Ythbgnpbkdeofcaa
