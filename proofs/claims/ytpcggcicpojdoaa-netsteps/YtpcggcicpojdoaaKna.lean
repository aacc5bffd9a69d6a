/-
  The rows of the chapter; nets that a law keeps.
-/
import Derived.Test.YtpcggcicpojdoaaTt
namespace Go.Proofs.Ytpcggcicpojdoaa
open Go.RowKit

theorem to23 (b mb : Nat) (v : Value) (N : Nn) (node : Int) (w : World) (h : Nt w b mb v N) : Calls Try.prog 23 #[P0 b, .int .i64 node] w fun e w' => ∃ u, e = .returned u ∧ w'.ownsRow w.heap.size 2 1 u (filT node N.L).length (nums (filT node N.L)) ∧ Kept [] w w' := callsIn_wide.1 (to23_in b mb v N node w h)
theorem send_yes (b mb : Nat) (v : Value) (N : Nn) (fr to : Int) (ao : Option Addr) (m c : Nat) (bs : List Int) (w : World) (h : Nt w b mb v N) (hV : Vals w ao m c (u8s bs)) (hnil : ao = none → m = 0 ∧ c = 0) (hby : ∀ x ∈ bs, 0 ≤ x ∧ x < 256) (hA : bs ≠ [] → ∀ h off, ao = some ⟨h, off, none⟩ → h ≠ b) (hb : (hasN N.nodes fr && hasN N.nodes to && decide (fr ≠ to)) = true) (hm : m ≤ 512) (hla : N.last ≤ 1000000000000) (hroom : N.L.length < 4096) :
    Calls Try.prog 16 #[P0 b, .int .i64 fr, .int .i64 to, .slice ao m c] w fun e w' => ∃ v' u, e = .returned (.tuple #[.int .i64 (N.last + 1), .int .i64 0]) ∧ Nt w' b mb v' ⟨N.nodes, N.last + 1, N.L ++ [⟨N.last + 1, fr, to, u, bs⟩]⟩ ∧ Kept (nX b mb v) w w' ∧ ∀ i, v'.ownBlock = some i → v.ownBlock = some i ∨ w.heap.size ≤ i := by
  have hb2 := hb
  simp only [Bool.and_eq_true, decide_eq_true_eq, hasN] at hb2
  refine (send_put b mb v N fr to ao m c w h hb hm (fun x y w' => x = .int .i64 (N.last + 1) ∧ y = .int .i64 0 ∧ ∃ v' u, Nt w' b mb v' ⟨N.nodes, N.last + 1, N.L ++ [⟨N.last + 1, fr, to, u, bs⟩]⟩ ∧ Kept (nX b mb v) w w' ∧ ∀ i, v'.ownBlock = some i → v.ownBlock = some i ∨ w.heap.size ≤ i) ?_).mono ?_
  · refine (put_yes b mb v N fr to ao m c bs w h hV hnil hby hA hm ⟨hb2.1.1.1, hb2.1.1.2⟩ ⟨hb2.1.2.1, hb2.1.2.2⟩ hla hroom).mono ?_
    rintro e w' ⟨v', u, rfl, h1, h2, h3⟩
    exact ⟨_, _, rfl, rfl, rfl, v', u, h1, h2, h3⟩
  · rintro e w' ⟨x, y, rfl, rfl, rfl, v', u, h1, h2, h3⟩
    exact ⟨v', u, rfl, h1, h2, h3⟩
theorem send_full (b mb : Nat) (v : Value) (N : Nn) (fr to : Int) (ao : Option Addr) (m c : Nat) (w : World) (h : Nt w b mb v N) (hb : (hasN N.nodes fr && hasN N.nodes to && decide (fr ≠ to)) = true) (hm : m ≤ 512) (hroom : 4096 ≤ N.L.length) :
    Calls Try.prog 16 #[P0 b, .int .i64 fr, .int .i64 to, .slice ao m c] w fun e w' => e = .returned (.tuple #[.int .i64 0, .int .i64 5]) ∧ w' = w := by
  refine (send_put b mb v N fr to ao m c w h hb hm (fun x y w' => x = .int .i64 0 ∧ y = .int .i64 5 ∧ w' = w) ?_).mono ?_
  · refine (put_full b mb v N fr to ao m c w h hroom).mono ?_
    rintro e w' ⟨rfl, h1⟩
    exact ⟨_, _, rfl, rfl, rfl, h1⟩
  · rintro e w' ⟨x, y, rfl, rfl, rfl, h1⟩
    exact ⟨rfl, h1⟩
theorem bod_ne {W : World} {b mb : Nat} {v : Value} {N : Nn} (h : Nt W b mb v N) {ao : Option Addr} {c : Nat} {bs : List Int} (hb : Bod W (.slice ao bs.length c) bs) : bs ≠ [] → ∀ h off, ao = some ⟨h, off, none⟩ → h ≠ b := by
  intro _ g off e
  subst e
  have := h.away hb g rfl
  simp only [nX, List.mem_cons, not_or] at this
  exact this.1
theorem double_yes (b mb : Nat) (v : Value) (N : Nn) (k : Int) (i : Nat) (l : Ltr) (w : World) (h : Nt w b mb v N) (hp : placeOf k N.L 0 = some (i, l)) (hla : N.last ≤ 1000000000000) (hroom : N.L.length < 4096) :
    Calls Try.prog 17 #[P0 b, .int .i64 k] w fun e w' => ∃ v' u, e = .returned (.tuple #[.int .i64 (N.last + 1), .int .i64 0]) ∧ Nt w' b mb v' ⟨N.nodes, N.last + 1, N.L ++ [⟨N.last + 1, l.fr, l.to, u, l.bs⟩]⟩ ∧ Kept (nX b mb v) w w' ∧ ∀ i, v'.ownBlock = some i → v.ownBlock = some i ∨ w.heap.size ≤ i := by
  have hl := look_mem hp
  refine (double_put b mb v N k w h i l hp (fun x y w' => x = .int .i64 (N.last + 1) ∧ y = .int .i64 0 ∧ ∃ v' u, Nt w' b mb v' ⟨N.nodes, N.last + 1, N.L ++ [⟨N.last + 1, l.fr, l.to, u, l.bs⟩]⟩ ∧ Kept (nX b mb v) w w' ∧ ∀ i, v'.ownBlock = some i → v.ownBlock = some i ∨ w.heap.size ≤ i) ?_).mono ?_
  · intro W hk
    have hW := h.kept0 hk
    have hbd := hW.body l hl
    obtain ⟨ao, c, hv, hV, hn⟩ := hbd.sl
    rw [hv] at hbd ⊢
    refine (put_yes b mb v N l.fr l.to ao _ c l.bs W hW hV hn hbd.byte (bod_ne hW hbd) (hW.small l hl) (hW.ends l hl).1 (hW.ends l hl).2 hla hroom).mono ?_
    rintro e w' ⟨v', u, rfl, h1, h2, h3⟩
    exact ⟨_, _, rfl, rfl, rfl, v', u, h1, (hk.mono (by simp)).trans h2, fun i hi => by rcases h3 i hi with h | h; exact .inl h; exact .inr (by have := hk.size; omega)⟩
  · rintro e w' ⟨x, y, rfl, rfl, rfl, v', u, h1, h2, h3⟩
    exact ⟨v', u, rfl, h1, h2, h3⟩
theorem double_full (b mb : Nat) (v : Value) (N : Nn) (k : Int) (i : Nat) (l : Ltr) (w : World) (h : Nt w b mb v N) (hp : placeOf k N.L 0 = some (i, l)) (hroom : 4096 ≤ N.L.length) :
    Calls Try.prog 17 #[P0 b, .int .i64 k] w fun e w' => e = .returned (.tuple #[.int .i64 0, .int .i64 5]) ∧ Kept [] w w' := by
  have hl := look_mem hp
  refine (double_put b mb v N k w h i l hp (fun x y w' => x = .int .i64 0 ∧ y = .int .i64 5 ∧ Kept [] w w') ?_).mono ?_
  · intro W hk
    have hW := h.kept0 hk
    obtain ⟨ao, c, hv, _, _⟩ := (hW.body l hl).sl
    rw [hv]
    refine (put_full b mb v N l.fr l.to ao _ c W hW hroom).mono ?_
    rintro e w' ⟨rfl, rfl⟩
    exact ⟨_, _, rfl, rfl, rfl, hk⟩
  · rintro e w' ⟨x, y, rfl, rfl, rfl, h1⟩
    exact ⟨rfl, h1⟩
theorem drop_none (b mb : Nat) (v : Value) (N : Nn) (k : Int) (w : World) (h : Nt w b mb v N) (hp : placeOf k N.L 0 = none) : Calls Try.prog 20 #[P0 b, .int .i64 k] w fun e w' => e = .returned (.int .i64 6) ∧ Kept [] w w' := by
  refine (drop_of b k w (fun x w' => x = 6 ∧ Kept [] w w') ((deliver_none b mb v N k w h hp).mono ?_) ?_).mono ?_
  · rintro e w' ⟨rfl, h1⟩
    exact ⟨zLtr, .slice none 0 0, 6, rfl, rfl, rfl, h1⟩
  · rintro x A B ⟨rfl, h1⟩ h2
    exact ⟨rfl, h1.trans h2⟩
  · rintro e w' ⟨x, rfl, rfl, h1⟩
    exact ⟨rfl, h1⟩
theorem drop_yes (b mb : Nat) (v : Value) (N : Nn) (k : Int) (w : World) (h : Nt w b mb v N) (i : Nat) (l0 : Ltr) (hp : placeOf k N.L 0 = some (i, l0)) : Calls Try.prog 20 #[P0 b, .int .i64 k] w fun e w' => ∃ v', e = .returned (.int .i64 0) ∧ Nt w' b mb v' ⟨N.nodes, N.last, N.L.eraseIdx i⟩ ∧ Kept (nX b mb v) w w' ∧ v'.ownBlock = v.ownBlock := by
  refine (drop_of b k w (fun x w' => x = 0 ∧ ∃ v', Nt w' b mb v' ⟨N.nodes, N.last, N.L.eraseIdx i⟩ ∧ Kept (nX b mb v) w w' ∧ v'.ownBlock = v.ownBlock) ((deliver_yes b mb v N k w h i l0 hp).mono ?_) ?_).mono ?_
  · rintro e w' ⟨v', u, rfl, h1, h2, h3, h4⟩
    exact ⟨l0, u, 0, h2.one, rfl, rfl, v', h1, h3, h4⟩
  · rintro x A B ⟨rfl, v', h1, h3, h4⟩ h2
    exact ⟨rfl, v', h1.kept0 h2, h3.trans (h2.mono (by simp)), h4⟩
  · rintro e w' ⟨x, rfl, rfl, v', h1, h3, h4⟩
    exact ⟨v', rfl, h1, h3, h4⟩
/-- A net that a law made, and what the law has kept so far. -/
structure Kn (w W : World) (b mb : Nat) (v : Value) (N : Nn) : Prop where
  nt : Nt W b mb v N
  k : Kept [] w W
  ge : w.heap.size ≤ b ∧ w.heap.size ≤ mb ∧ ∀ i, v.ownBlock = some i → w.heap.size ≤ i
theorem Kn.step {w W W' : World} {b mb : Nat} {v : Value} {N : Nn} (h : Kn w W b mb v N) (hk : Kept [] W W') : Kn w W' b mb v N := ⟨h.nt.kept0 hk, h.k.trans hk, h.ge⟩
theorem Kn.in {w W : World} {b mb : Nat} {v : Value} {N : Nn} (h : Kn w W b mb v N) : ∀ i ∈ nX b mb v, w.heap.size ≤ i := by
  intro i hi
  simp only [nX, List.mem_cons, Option.mem_toList] at hi
  rcases hi with rfl | rfl | hi
  · exact h.ge.1
  · exact h.ge.2.1
  · exact h.ge.2.2 i hi
theorem Kn.mut {w W W' : World} {b mb : Nat} {v v' : Value} {N N' : Nn} (h : Kn w W b mb v N) (hn : Nt W' b mb v' N') (hk : Kept (nX b mb v) W W') (hv : ∀ i, v'.ownBlock = some i → v.ownBlock = some i ∨ W.heap.size ≤ i) : Kn w W' b mb v' N' :=
  ⟨hn, h.k.fresh hk (fun i hi hl => by have := h.in i hi; omega), h.ge.1, h.ge.2.1, fun i hi => by
    rcases hv i hi with h1 | h1
    · exact h.ge.2.2 i h1
    · have := h.k.size; omega⟩
/-- What is kept beside the net: blocks younger than w that are none of the net's. -/
theorem Kn.apart {w W : World} {b mb : Nat} {v : Value} {N : Nn} (h : Kn w W b mb v N) {p T : Nat} {us : List Value} (hp : Blk W p T us) (h1 : T ≠ 58) (h2 : T ≠ 2) : p ∉ nX b mb v := by
  simp only [nX, List.mem_cons, Option.mem_toList, not_or]
  refine ⟨?_, map_not_cells h.nt.map hp, ?_⟩
  · rintro rfl
    have := h.nt.head
    unfold Blk at this hp
    rw [this] at hp
    injection hp with hp
    injection hp with g1 g2
    exact h1 g2.symm
  · exact not_in_own hp h.nt.ord h2

end Go.Proofs.Ytpcggcicpojdoaa
