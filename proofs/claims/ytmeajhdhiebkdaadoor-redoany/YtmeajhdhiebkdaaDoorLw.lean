/-
  A log and its device, made since some world: what each call leaves.
-/
import Derived.Test.YtmeajhdhiebkdaaDoorLv
namespace Go.Proofs.YtmeajhdhiebkdaaDoor
set_option maxRecDepth 100000
open Go.RowKit

/-- A device made since w0. -/
structure Kd (w0 W : World) (b g : Nat) (D : Dv.Dev) : Prop where
  dev : Dv.Dv W b g D
  k : Kept [] w0 W
  gb : w0.heap.size ≤ b
  gg : w0.heap.size ≤ g
/-- A log and its device, made since w0. -/
structure Ka (w0 W : World) (l b g : Nat) (D : Dv.Dev) (L : Lo) : Prop where
  lt : ∃ rv, Lt W l b g rv D L ∧ ∀ k, rv.ownBlock = some k → w0.heap.size ≤ k
  k : Kept [] w0 W
  gl : w0.heap.size ≤ l
  gb : w0.heap.size ≤ b
  gg : w0.heap.size ≤ g
theorem Kd.step {w0 W W' : World} {b g : Nat} {D : Dv.Dev} (h : Kd w0 W b g D) (hk : Kept [] W W') : Kd w0 W' b g D := ⟨h.dev.kept hk (by simp) (by simp), h.k.trans hk, h.gb, h.gg⟩
theorem Ka.step {w0 W W' : World} {l b g : Nat} {D : Dv.Dev} {L : Lo} (h : Ka w0 W l b g D L) (hk : Kept [] W W') : Ka w0 W' l b g D L := by
  obtain ⟨⟨rv, h1, h2⟩, h3, h4, h5, h6⟩ := h
  exact ⟨⟨rv, h1.kept0 hk, h2⟩, h3.trans hk, h4, h5, h6⟩
theorem Ka.kd {w0 W : World} {l b g : Nat} {D : Dv.Dev} {L : Lo} (h : Ka w0 W l b g D L) : Kd w0 W b g D := by
  obtain ⟨⟨rv, h1, h2⟩, h3, h4, h5, h6⟩ := h
  exact ⟨h1.dev, h3, h5, h6⟩
theorem Kd.first {w0 W : World} {b g : Nat} {D : Dv.Dev} (h : Kd w0 W b g D) (hF : Rc.First w0) : Rc.First W := hF.kept h.k
theorem Ka.first {w0 W : World} {l b g : Nat} {D : Dv.Dev} {L : Lo} (h : Ka w0 W l b g D L) (hF : Rc.First w0) : Rc.First W := hF.kept h.k
theorem ka_start {w0 W : World} {l b g : Nat} {D : Dv.Dev} {L : Lo} (h : Ka w0 W l b g D L) : Calls Tryd.prog 21 #[P0 l] W fun e w' => e = .returned (.int .i64 L.st) ∧ Ka w0 w' l b g D L := by
  obtain ⟨rv, h1, h2⟩ := h.lt
  exact (start21 l b g rv D L W h1).mono (by rintro e w' ⟨rfl, rfl⟩; exact ⟨rfl, h⟩)
theorem ka_next {w0 W : World} {l b g : Nat} {D : Dv.Dev} {L : Lo} (h : Ka w0 W l b g D L) : Calls Tryd.prog 23 #[P0 l] W fun e w' => e = .returned (.int .i64 (L.st + L.R.length)) ∧ Ka w0 w' l b g D L := by
  obtain ⟨rv, h1, h2⟩ := h.lt
  exact (next23 l b g rv D L W h1).mono (by rintro e w' ⟨rfl, hk⟩; exact ⟨rfl, h.step hk⟩)
theorem ka_flushed {w0 W : World} {l b g : Nat} {D : Dv.Dev} {L : Lo} (h : Ka w0 W l b g D L) : Calls Tryd.prog 15 #[P0 l] W fun e w' => e = .returned (.int .i64 (L.st + L.fl - 1)) ∧ Ka w0 w' l b g D L := by
  obtain ⟨rv, h1, h2⟩ := h.lt
  exact (flushed15 l b g rv D L W h1).mono (by rintro e w' ⟨rfl, hk⟩; exact ⟨rfl, h.step hk⟩)
theorem ka_room {w0 W : World} {l b g : Nat} {D : Dv.Dev} {L : Lo} (h : Ka w0 W l b g D L) : Calls Tryd.prog 12 #[P0 l] W fun e w' => e = .returned (.int .i64 L.room) ∧ Ka w0 w' l b g D L := by
  obtain ⟨rv, h1, h2⟩ := h.lt
  exact (room12 l b g rv D L W h1).mono (by rintro e w' ⟨rfl, hk⟩; exact ⟨rfl, h.step hk⟩)
theorem ka_app {w0 W : World} {l b g : Nat} {D : Dv.Dev} {L : Lo} (p ps : Int) (bd : List Int) (hb : Rc.Byts 96 bd) (h : Ka w0 W l b g D L) : Calls Tryd.prog 16 #[P0 l, .int .i64 p, aggV (verC ps bd)] W fun e w' => e = .returned (.tuple #[.int .i64 (L.app p ps bd).2.1, .int .i64 (L.app p ps bd).2.2]) ∧ Ka w0 w' l b g D (L.app p ps bd).1 := by
  obtain ⟨rv, h1, h2⟩ := h.lt
  refine (append16 l b g rv D L p ps bd W h1 hb).mono ?_
  rintro e w' ⟨rv', rfl, h3, hk, h4⟩
  refine ⟨rfl, ⟨rv', h3, fun k e => ?_⟩, h.k.fresh hk (fun i hi hl => ?_), h.gl, h.gb, h.gg⟩
  · rcases h4 k e with h5 | h5
    · exact h2 k h5
    · have := h.k.size; omega
  · rcases List.mem_cons.1 hi with rfl | hi
    · have := h.gl; omega
    · have := h2 i (by simpa using hi); omega
theorem ka_flush {w0 W : World} {l b g : Nat} {D : Dv.Dev} {L : Lo} (h : Ka w0 W l b g D L) : Calls Tryd.prog 13 #[P0 l] W fun e w' => e = .returned (.int .i64 (L.flush D).2.2) ∧ Ka w0 w' l b g (L.flush D).1 (L.atF (L.flush D).2.1) := by
  obtain ⟨rv, h1, h2⟩ := h.lt
  refine (flush13 l b g rv D L W h1).mono ?_
  rintro e w' ⟨rfl, h3, hk⟩
  refine ⟨rfl, ⟨rv, h3, h2⟩, h.k.fresh hk (fun i hi hl => ?_), h.gl, h.gb, h.gg⟩
  have := h.gl; have := h.gb; have := h.gg
  simp at hi
  omega
theorem ka_cut {w0 W : World} {l b g : Nat} {D : Dv.Dev} {L : Lo} (hF : Rc.First w0) (s : Int) (h : Ka w0 W l b g D L) : Calls Tryd.prog 14 #[P0 l, .int .i64 s] W fun e w' => e = .returned (.int .i64 (L.cut D s).2.2) ∧ Ka w0 w' l b g (L.cut D s).1 (L.cut D s).2.1 := by
  obtain ⟨rv, h1, h2⟩ := h.lt
  refine (cut14 l b g rv D L s W h1 (h.first hF)).mono ?_
  rintro e w' ⟨rv', rfl, h3, hk, h4⟩
  refine ⟨rfl, ⟨rv', h3, fun k e => h2 k (by rw [← h4]; exact e)⟩, h.k.fresh hk (fun i hi hl => ?_), h.gl, h.gb, h.gg⟩
  have := h.gl; have := h.gb; have := h.gg
  simp at hi
  omega
theorem Lt.notdev {W : World} {l b g : Nat} {rv : Value} {D : Dv.Dev} {L : Lo} (h : Lt W l b g rv D L) : l ∉ [b, g] ∧ ∀ k, rv.ownBlock = some k → k ∉ [b, g] := by
  obtain ⟨cap, h1, ex, h2, _⟩ := h.dev.lay
  have no : ∀ (p T : Nat) (cs : Array Value), T ≠ 96 → T ≠ 80 → W.heap[p]? = some (.cells cs T (0, 0)) → p ∉ [b, g] := by
    intro p T cs t1 t2 h3 hm
    unfold Dv.Head at h1
    simp only [List.mem_cons, List.not_mem_nil, or_false] at hm
    rcases hm with rfl | rfl
    · rw [h3] at h1
      injection h1 with h1
      injection h1 with _ h1
      exact t1 h1
    · rw [h3] at h2
      injection h2 with h2
      injection h2 with _ h2
      exact t2 h2
  refine ⟨no l 72 _ (by decide) (by decide) h.head, fun k e => ?_⟩
  obtain ⟨cs, hc⟩ := h.row.block k e
  exact no k 45 cs (by decide) (by decide) hc
theorem Lt.setdev {W W' : World} {l b g : Nat} {rv : Value} {D D' : Dv.Dev} {L : Lo} (h : Lt W l b g rv D L) (hD : Dv.Dv W' b g D') (hk : Kept [b, g] W W') : Lt W' l b g rv D' L :=
  ⟨h.head.kept hk h.notdev.1, hD, h.row.kept hk h.notdev.2, h.recs, h.may, h.node, h.ep, h.st, h.nx, h.fl, h.many⟩
theorem ka_up {w0 W : World} {l b g : Nat} {D : Dv.Dev} {L : Lo} (x : Int) (h : Ka w0 W l b g D L) : Calls Tryd.prog 19 #[P0 b, .int .i64 x] W fun e w' => e = .returned (.tuple #[.int .i64 (D.up x).1, .int .i64 (D.up x).2.1]) ∧ Ka w0 w' l b g (D.up x).2.2 L := by
  obtain ⟨rv, h1, h2⟩ := h.lt
  refine (Dv.up27 b g D x W h1.dev).mono ?_
  rintro e w' ⟨rfl, h3, hk⟩
  refine ⟨rfl, ⟨rv, h1.setdev h3 hk, h2⟩, h.k.fresh hk (fun i hi hl => ?_), h.gl, h.gb, h.gg⟩
  have := h.gb; have := h.gg
  simp at hi
  omega
theorem kd_open {w0 W : World} {b g : Nat} {D : Dv.Dev} (hF : Rc.First w0) (J : Ar.Job) (nd ep : Int) (s : Int) (R : List Rc.Rec) (he : 1 ≤ ep ∧ ep ≤ 2147483647) (hR : lookR D J nd true = (s, R, 0)) (h : Kd w0 W b g D) : Calls Tryd.prog 11 #[P0 b, aggV (Ar.jobC J), .int .i64 nd, .int .i64 ep] W fun e w' => ∃ l, e = .returned (.tuple #[P0 l, .int .i64 0]) ∧ Ka w0 w' l b g D (openL J nd ep s R) := by
  have hd : decide (1 ≤ ep ∧ ep ≤ 2147483647) = true := by simpa using he
  have h9 := open_yes b g D J nd ep W h.dev (h.first hF)
  rw [hd, hR] at h9
  refine (h9 rfl).mono ?_
  rintro e w' ⟨l, rv, rfl, h1, hk, h2, h3⟩
  have := h.k.size
  exact ⟨l, rfl, ⟨rv, h1, fun k e => by have := h3 k e; omega⟩, h.k.trans hk, by omega, h.gb, h.gg⟩
theorem kd_new (J : Ar.Job) (hm : J.may = true) (w0 W : World) (hk : Kept [] w0 W) : Calls Tryd.prog 10 #[aggV (Ar.jobC J)] W fun e w' => ∃ b g, e = .returned (P0 b) ∧ Kd w0 w' b g (ups (Dv.newDev J.sectors.1.toNat J.n.toNat) J.n.toNat) := by
  refine (lnew10 J hm W).mono ?_
  rintro e w' ⟨b, g, rfl, h1, h2, h3, h4⟩
  have := hk.size
  exact ⟨b, g, rfl, h3, hk.trans h4, by omega, by omega⟩

end Go.Proofs.YtmeajhdhiebkdaaDoor
