/-
  Both ends, what is on its way, what came out.
-/
import Derived.Test.YthbgnpbkdeofcaaStb
namespace Go.Proofs.Ythbgnpbkdeofcaa
set_option maxRecDepth 100000
open Go.RowKit

/-- A row of bodies, by their bytes. -/
def Rb (W : World) (v : Value) (L : List (List Int)) : Prop := ∃ ws, Bods W v ws L
theorem Rb.kept {W W' : World} {v : Value} {L : List (List Int)} {X : List Nat} (h : Rb W v L) (hk : Kept X W W') (hv : ∀ k, v.ownBlock = some k → k ∉ X) (h5 : ∀ k ∈ X, ∀ cs p, W.heap[k]? ≠ some (Obj.cells cs 5 p)) : Rb W' v L := by
  obtain ⟨ws, hb⟩ := h
  refine ⟨ws, hb.row.kept hk hv, hb.len, fun i u bs hu hs => ?_⟩
  have hB := hb.body i u bs hu hs
  exact hB.kept hk (fun k e hm => by obtain ⟨cs, hc⟩ := hB.block k e; exact h5 k hm _ _ hc)
theorem Rb.block {W : World} {v : Value} {L : List (List Int)} (h : Rb W v L) : ∀ k, v.ownBlock = some k → ∃ cs, W.heap[k]? = some (.cells cs 33 (0, 0)) := by
  obtain ⟨ws, hb⟩ := h
  exact hb.row.block
theorem Rb.nil (W : World) : Rb W (.slice none 0 0) [] := ⟨[], OwnO.nil _, rfl, by simp⟩
def upd {α : Type} (f : Nat → α) (i : Nat) (x : α) : Nat → α := fun j => if j = i then x else f j
theorem upd_same {α : Type} (f : Nat → α) (i : Nat) (x : α) : upd f i x i = x := by simp [upd]
theorem upd_ne {α : Type} (f : Nat → α) {i j : Nat} (x : α) (h : j ≠ i) : upd f i x j = f j := by simp [upd, h]
/-- The rows of both ends: what waits, what was sent, what came out. -/
def Rw (sv st ou : Nat → Value) (n : Nat) : Value := if n < 2 then sv n else if n < 4 then st (n - 2) else ou (n - 4)
def twC (pt : Nat → Nat) (onv : Value) (st ou : Nat → Value) : List Value := [P0 (pt 0), P0 (pt 1), onv, st 0, st 1, ou 0, ou 1]
/-- Both ends stand in memory. -/
structure Tt (w W : World) (z : Nat) (pt : Nat → Nat) (sv : Nat → Value) (sw : Nat → List Value) (sp : Nat → Ps) (onv : Value) (D : List (Dg × Value)) (st ou : Nat → Value) (L M : Nat → List (List Int)) : Prop where
  k : Kept [] w W
  hd : Blk W z 54 (twC pt onv st ou)
  s : ∀ i, i < 2 → Sx W (pt i) (sv i) (sw i) (sp i)
  r : ∀ i, i < 2 → Rb W (st i) (L i)
  q : ∀ i, i < 2 → Rb W (ou i) (M i)
  on : Dl W w.heap.size onv D
  ge : w.heap.size ≤ z ∧ (∀ i, i < 2 → w.heap.size ≤ pt i) ∧ ∀ n, n < 6 → ∀ k, (Rw sv st ou n).ownBlock = some k → w.heap.size ≤ k
  ap : ∀ n m, n < 6 → m < 6 → n ≠ m → Apt (Rw sv st ou n) (Rw sv st ou m)
  ne : pt 0 ≠ pt 1
theorem Tt.step {w W W' : World} {z : Nat} {pt : Nat → Nat} {sv : Nat → Value} {sw : Nat → List Value} {sp : Nat → Ps} {onv : Value} {D : List (Dg × Value)} {st ou : Nat → Value} {L M : Nat → List (List Int)} (h : Tt w W z pt sv sw sp onv D st ou L M) (hk : Kept [] W W') : Tt w W' z pt sv sw sp onv D st ou L M :=
  ⟨h.k.trans hk, h.hd.kept hk (by simp), fun i hi => (h.s i hi).kept0 hk, fun i hi => (h.r i hi).kept hk (by simp) (by simp), fun i hi => (h.q i hi).kept hk (by simp) (by simp), h.on.kept0 hk, h.ge, h.ap, h.ne⟩
theorem Tt.row {w W : World} {z : Nat} {pt : Nat → Nat} {sv : Nat → Value} {sw : Nat → List Value} {sp : Nat → Ps} {onv : Value} {D : List (Dg × Value)} {st ou : Nat → Value} {L M : Nat → List (List Int)} (h : Tt w W z pt sv sw sp onv D st ou L M) (n : Nat) (hn : n < 6) : ∀ k, (Rw sv st ou n).ownBlock = some k → ∃ cs, W.heap[k]? = some (.cells cs 33 (0, 0)) := by
  intro k e
  unfold Rw at e
  split at e
  · exact (h.s n (by omega)).row.block k e
  · split at e
    · exact (h.r (n - 2) (by omega)).block k e
    · exact (h.q (n - 4) (by omega)).block k e
theorem Tt.rowlt {w W : World} {z : Nat} {pt : Nat → Nat} {sv : Nat → Value} {sw : Nat → List Value} {sp : Nat → Ps} {onv : Value} {D : List (Dg × Value)} {st ou : Nat → Value} {L M : Nat → List (List Int)} (h : Tt w W z pt sv sw sp onv D st ou L M) (n : Nat) (hn : n < 6) : ∀ k, (Rw sv st ou n).ownBlock = some k → k < W.heap.size := fun k e => by
  obtain ⟨cs, hc⟩ := h.row n hn k e
  exact lt_of_block hc
/-- A call of one end's. -/
theorem Tt.mut {w W W' : World} {z : Nat} {pt : Nat → Nat} {sv : Nat → Value} {sw : Nat → List Value} {sp : Nat → Ps} {onv : Value} {D : List (Dg × Value)} {st ou : Nat → Value} {L M : Nat → List (List Int)} (h : Tt w W z pt sv sw sp onv D st ou L M) {i : Nat} (hi : i < 2) {v' : Value} {ws' : List Value} {P' : Ps} (g : SR W (pt i) (sv i) (sw i) W' v' ws' P') : Tt w W' z pt (upd sv i v') (upd sw i ws') (upd sp i P') onv D st ou L M := by
  have hsi := h.s i hi
  have hRi : Rw sv st ou i = sv i := by unfold Rw; rw [if_pos hi]
  have hR' : ∀ n, n < 6 → n ≠ i → Rw (upd sv i v') st ou n = Rw sv st ou n := by
    intro n hn hne
    unfold Rw
    split
    · rw [upd_ne _ _ hne]
    · rfl
  have hRi' : Rw (upd sv i v') st ou i = v' := by unfold Rw; rw [if_pos hi, upd_same]
  have hno5 : ∀ k ∈ pt i :: (sv i).ownBlock.toList, ∀ cs p, W.heap[k]? ≠ some (Obj.cells cs 5 p) := fun k hm cs p hc => hsi.notin hc (by decide) (by decide) hm
  have hrow : ∀ n, n < 6 → n ≠ i → ∀ k, (Rw sv st ou n).ownBlock = some k → k ∉ pt i :: (sv i).ownBlock.toList := by
    intro n hn hne k e hm
    rcases List.mem_cons.1 hm with rfl | hm
    · obtain ⟨cs, hc⟩ := h.row n hn _ e
      have := hsi.head
      unfold Blk at this
      rw [hc] at this
      cases this
    · exact h.ap i n (by omega) hn (fun e => hne e.symm) k (by rw [hRi]; simpa using hm) e
  refine ⟨?_, h.hd.kept g.kept (hsi.notin h.hd (by decide) (by decide)), fun j hj => ?_, fun j hj => ?_, fun j hj => ?_, g.dl hsi h.on, ⟨h.ge.1, h.ge.2.1, fun n hn k e => ?_⟩, fun n m hn hm hne => ?_, h.ne⟩
  · refine h.k.fresh g.kept (fun x hx hl => ?_)
    rcases List.mem_cons.1 hx with rfl | hx
    · have := h.ge.2.1 i hi; omega
    · have := h.ge.2.2 i (by omega) x (by rw [hRi]; simpa using hx); omega
  · by_cases e : j = i
    · subst e
      rw [upd_same, upd_same, upd_same]
      exact g.sx
    · rw [upd_ne _ _ e, upd_ne _ _ e, upd_ne _ _ e]
      refine (h.s j hj).other g hsi ⟨?_, fun k e1 e2 => ?_⟩
      · have := h.ne
        intro ep
        have : (i = 0 ∧ j = 1) ∨ (i = 1 ∧ j = 0) := by omega
        rcases this with ⟨rfl, rfl⟩ | ⟨rfl, rfl⟩
        · exact h.ne ep
        · exact h.ne ep.symm
      · exact h.ap i j (by omega) (by omega) (fun x => e x.symm) k (by rw [hRi]; exact e1) (by unfold Rw; rw [if_pos hj]; exact e2)
  · refine (h.r j hj).kept g.kept (fun k e => hrow (j + 2) (by omega) (by omega) k ?_) hno5
    unfold Rw
    rw [if_neg (by omega), if_pos (by omega), Nat.add_sub_cancel]
    exact e
  · refine (h.q j hj).kept g.kept (fun k e => hrow (j + 4) (by omega) (by omega) k ?_) hno5
    unfold Rw
    rw [if_neg (by omega), if_neg (by omega), Nat.add_sub_cancel]
    exact e
  · by_cases en : n = i
    · subst en
      rw [hRi'] at e
      rcases g.own k e with h1 | h1
      · exact h.ge.2.2 n hn k (by rw [hRi]; exact h1)
      · have := h.k.size; omega
    · rw [hR' n hn en] at e
      exact h.ge.2.2 n hn k e
  · by_cases en : n = i
    · subst en
      rw [hRi', hR' m hm (fun x => hne x.symm)]
      refine Apt.mut (W := W) (v := sv n) (fun k e1 e2 => h.ap n m hn hm hne k (by rw [hRi]; exact e1) e2) g.own (h.rowlt m hm)
    · by_cases em : m = i
      · subst em
        rw [hRi', hR' n hn en]
        refine Apt.symm (Apt.mut (W := W) (v := sv m) (fun k e1 e2 => h.ap m n hm hn (fun x => hne x.symm) k (by rw [hRi]; exact e1) e2) g.own (h.rowlt n hn))
      · rw [hR' n hn en, hR' m hm em]
        exact h.ap n m hn hm hne
/-- A body more in one of the rows that the law keeps (n: 2, 3 sent; 4, 5 out). -/
theorem Tt.put {w W W' : World} {z : Nat} {pt : Nat → Nat} {sv : Nat → Value} {sw : Nat → List Value} {sp : Nat → Ps} {onv : Value} {D : List (Dg × Value)} {st ou : Nat → Value} {L M : Nat → List (List Int)} (h : Tt w W z pt sv sw sp onv D st ou L M) {st' ou' : Nat → Value} {L' M' : Nat → List (List Int)} {n : Nat} (hn : 2 ≤ n ∧ n < 6) (hz : Blk W' z 54 (twC pt onv st' ou')) (hk : Kept (z :: (Rw sv st ou n).ownBlock.toList) W W') (ho : ∀ k, (Rw sv st' ou' n).ownBlock = some k → (Rw sv st ou n).ownBlock = some k ∨ W.heap.size ≤ k) (hsame : ∀ m, m < 6 → m ≠ n → Rw sv st' ou' m = Rw sv st ou m) (hr : ∀ i, i < 2 → i + 2 ≠ n → L' i = L i) (hq : ∀ i, i < 2 → i + 4 ≠ n → M' i = M i) (hrn : ∀ i, i < 2 → i + 2 = n → Rb W' (st' i) (L' i)) (hqn : ∀ i, i < 2 → i + 4 = n → Rb W' (ou' i) (M' i)) : Tt w W' z pt sv sw sp onv D st' ou' L' M' := by
  have hno : ∀ (p T : Nat) (cs : Array Value) (q' : Nat × Nat), T ≠ 54 → T ≠ 33 → W.heap[p]? = some (Obj.cells cs T q') → p ∉ z :: (Rw sv st ou n).ownBlock.toList := fun p T cs q' h1 h2 hp hm => by
    rcases List.mem_cons.1 hm with rfl | hm
    · have := h.hd
      unfold Blk at this
      rw [this] at hp
      cases hp
      exact h1 rfl
    · obtain ⟨cs', hc⟩ := h.row n hn.2 p (by simpa using hm)
      rw [hc] at hp
      cases hp
      exact h2 rfl
  have hrow : ∀ m, m < 6 → m ≠ n → ∀ k, (Rw sv st ou m).ownBlock = some k → k ∉ z :: (Rw sv st ou n).ownBlock.toList := by
    intro m hm hne k e hmm
    rcases List.mem_cons.1 hmm with rfl | hmm
    · obtain ⟨cs, hc⟩ := h.row m hm _ e
      have := h.hd
      unfold Blk at this
      rw [hc] at this
      cases this
    · exact h.ap n m hn.2 hm (fun e => hne e.symm) k (by simpa using hmm) e
  have h5 : ∀ k ∈ z :: (Rw sv st ou n).ownBlock.toList, ∀ cs p, W.heap[k]? ≠ some (Obj.cells cs 5 p) := fun k hm cs p hc => hno k 5 cs p (by decide) (by decide) hc hm
  refine ⟨?_, hz, fun j hj => ?_, fun j hj => ?_, fun j hj => ?_, ?_, ⟨h.ge.1, h.ge.2.1, fun m hm k e => ?_⟩, fun m p hm hp hne => ?_, h.ne⟩
  · refine h.k.fresh hk (fun x hx hl => ?_)
    rcases List.mem_cons.1 hx with rfl | hx
    · have := h.ge.1; omega
    · have := h.ge.2.2 n hn.2 x (by simpa using hx); omega
  · have hs := h.s j hj
    refine hs.kept hk (hno _ _ _ _ (by decide) (by decide) hs.head) (fun k e => hrow j (by omega) (by omega) k (by unfold Rw; rw [if_pos hj]; exact e)) (fun u hu k e => ?_)
    obtain ⟨bs, hb⟩ := hs.bod hu
    obtain ⟨cs, hc⟩ := hb.block k e
    exact hno _ _ _ _ (by decide) (by decide) hc
  · by_cases e : j + 2 = n
    · exact hrn j hj e
    · have hst : st' j = st j := by
        have := hsame (j + 2) (by omega) e
        unfold Rw at this
        rw [if_neg (by omega), if_pos (by omega), if_neg (by omega), if_pos (by omega), Nat.add_sub_cancel] at this
        exact this
      rw [hst, hr j hj e]
      refine (h.r j hj).kept hk (fun k ek => hrow (j + 2) (by omega) e k ?_) h5
      unfold Rw
      rw [if_neg (by omega), if_pos (by omega), Nat.add_sub_cancel]
      exact ek
  · by_cases e : j + 4 = n
    · exact hqn j hj e
    · have hst : ou' j = ou j := by
        have := hsame (j + 4) (by omega) e
        unfold Rw at this
        rw [if_neg (by omega), if_neg (by omega), if_neg (by omega), if_neg (by omega), Nat.add_sub_cancel] at this
        exact this
      rw [hst, hq j hj e]
      refine (h.q j hj).kept hk (fun k ek => hrow (j + 4) (by omega) e k ?_) h5
      unfold Rw
      rw [if_neg (by omega), if_neg (by omega), Nat.add_sub_cancel]
      exact ek
  · refine h.on.kept hk (fun k e => ?_) (fun p hp k e => ?_)
    · obtain ⟨cs, hc⟩ := owns_block h.on.row k e
      exact hno _ _ _ _ (by decide) (by decide) hc
    · obtain ⟨cs, hc⟩ := (h.on.bod p hp).block k e
      exact hno _ _ _ _ (by decide) (by decide) hc
  · by_cases em : m = n
    · subst em
      rcases ho k e with h1 | h1
      · exact h.ge.2.2 m hm k h1
      · have := h.k.size; omega
    · rw [hsame m hm em] at e
      exact h.ge.2.2 m hm k e
  · by_cases em : m = n
    · subst em
      rw [hsame p hp (fun x => hne x.symm)]
      exact Apt.mut (W := W) (h.ap m p hm hp hne) ho (h.rowlt p hp)
    · by_cases ep : p = n
      · subst ep
        rw [hsame m hm em]
        exact Apt.symm (Apt.mut (W := W) (h.ap p m hp hm (fun x => hne x.symm)) ho (h.rowlt m hm))
      · rw [hsame m hm em, hsame p hp ep]
        exact h.ap m p hm hp hne

end Go.Proofs.Ythbgnpbkdeofcaa
