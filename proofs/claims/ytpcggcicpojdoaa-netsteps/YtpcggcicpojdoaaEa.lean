/-
  Two nets beside the document's two.
-/
import Derived.Test.YtpcggcicpojdoaaDd
namespace Go.Proofs.Ytpcggcicpojdoaa
open Go.RowKit

/-- do, whatever the step. -/
theorem do12 (x : Stq) (b mb : Nat) (v : Value) (N : Nn) (r : Nat) (lv : Value) (R : Nn) (w : World) (h : Pw w b mb v N r lv R) (hla : N.last ≤ 1000000000000) (B : Nat) (hx : x.Ok w B) (hBw : B ≤ w.heap.size) (hB : ∀ i ∈ r :: nX b mb v, B ≤ i) : Calls Try.prog 12 #[P0 b, P0 r, aggV x.C] w fun e w' => ∃ b' mb' v' N' lv' R', e = .returned (.tuple #[P0 b', P0 r, .bool true]) ∧ Dn w w' b mb v N r b' mb' v' N' lv' R' := by
  by_cases h1 : x.k = 1
  · exact do12_1 x b mb v N r lv R w h hla B hx hBw hB h1
  · by_cases h2 : x.k = 2
    · exact do12_2 x b mb v N r lv R w h hla h2
    · by_cases h3 : x.k = 3
      · exact do12_3 x b mb v N r lv R w h hla h3
      · by_cases h4 : x.k = 4
        · exact do12_4 x b mb v N r lv R w h hla h4
        · by_cases h5 : x.k = 5
          · exact do12_5 x b mb v N r lv R w h hla h5
          · by_cases h6 : x.k = 6
            · exact do12_6 x b mb v N r lv R w h hla h6
            · exact do12_0 x b mb v N r lv R w h hla h1 h2 h3 h4 h5 h6
/-- A net and the document's, or none of both. -/
inductive Qw (w W : World) (i : Int) : Value → Value → Option Pn → List Nat → Prop where
  | no : Qw w W i (.pointer none) (.pointer none) none []
  | yes (b mb : Nat) (v : Value) (N : Nn) (r : Nat) (lv : Value) (R : Nn) (h : Pw W b mb v N r lv R) (hl : N.last ≤ i) (hb : ∀ k ∈ r :: nX b mb v, w.heap.size ≤ k) : Qw w W i (P0 b) (P0 r) (some N.pl) (r :: nX b mb v)
theorem Qw.step {w W W' : World} {i : Int} {xv pv : Value} {P : Option Pn} {X : List Nat} (h : Qw w W i xv pv P X) (hk : Kept [] W W') : Qw w W' i xv pv P X := by
  cases h with
  | no => exact .no
  | yes b mb v N r lv R h hl hb => exact .yes b mb v N r lv R (h.kept0 hk) hl hb
theorem Qw.grow {w W : World} {i j : Int} {xv pv : Value} {P : Option Pn} {X : List Nat} (h : Qw w W i xv pv P X) (hij : i ≤ j) : Qw w W j xv pv P X := by
  cases h with
  | no => exact .no
  | yes b mb v N r lv R h hl hb => exact .yes b mb v N r lv R h (by omega) hb
theorem Pw.lt {W : World} {b mb : Nat} {v : Value} {N : Nn} {r : Nat} {lv : Value} {R : Nn} (h : Pw W b mb v N r lv R) : ∀ k ∈ r :: nX b mb v, k < W.heap.size := by
  intro k hk
  simp only [nX, List.mem_cons, Option.mem_toList] at hk
  have hn := h.net.lt
  rcases hk with rfl | rfl | rfl | hk
  · exact h.ref.head.lt
  · exact hn.1
  · exact hn.2.1
  · exact hn.2.2 k hk
theorem Pw.apart {W W' : World} {b mb : Nat} {v : Value} {N : Nn} {r : Nat} {lv : Value} {R : Nn} {b2 mb2 : Nat} {v2 : Value} {M : Nn} {r2 : Nat} {lv2 : Value} {S : Nn} (h : Pw W b2 mb2 v2 M r2 lv2 S) (hn : Pw W b mb v N r lv R) (hd : ∀ k ∈ r :: nX b mb v, k ∉ r2 :: nX b2 mb2 v2) (hk : Kept (r :: nX b mb v) W W') : Pw W' b2 mb2 v2 M r2 lv2 S := by
  have hbody : ∀ {u : Value} {bs : List Int}, Bod W u bs → ∀ k, u.ownBlock = some k → k ∉ r :: nX b mb v := by
    intro u bs hu k e hm
    rcases List.mem_cons.1 hm with rfl | hm
    · obtain ⟨cs, hc⟩ := hu.block k e
      have h1 := hn.ref.head
      unfold Blk at h1
      rw [h1] at hc
      cases hc
    · exact hn.net.away hu k e hm
  refine ⟨h.net.kept hk fun k hm => ?_, ⟨h.ref.head.kept hk (fun hm => hd r2 hm (by simp)), owns_keptX h.ref.row hk (fun k e hm => ?_), fun l hl => (h.ref.body l hl).kept hk (hbody (h.ref.body l hl))⟩, h.pl⟩
  · obtain ⟨_, _, hm⟩ := hm
    refine ⟨fun h9 => hd k hm (List.mem_cons_of_mem _ h9), fun l hl e => hbody (h.net.body l hl) k e hm⟩
  · obtain ⟨cs, hc⟩ := owns_block h.ref.row k e
    simp only [nX, List.mem_cons, Option.mem_toList] at hm
    rcases hm with rfl | rfl | rfl | hm
    · have h1 := hn.ref.head
      unfold Blk at h1
      rw [h1] at hc
      injection hc with hc
      injection hc with _ hc
      exact absurd hc (by decide)
    · have h1 := hn.net.head
      unfold Blk at h1
      rw [h1] at hc
      injection hc with hc
      injection hc with _ hc
      exact absurd hc (by decide)
    · exact map_not_cells hn.net.map hc rfl
    · obtain ⟨cs', hc'⟩ := owns_block hn.net.ord k hm
      rw [hc'] at hc
      injection hc with hc
      injection hc with _ hc
      exact absurd hc (by decide)
/-- Two nets beside the document's two. -/
structure Duo (w W : World) (i j : Int) (xv pv yv qv : Value) (P Q : Option Pn) (X Y : List Nat) : Prop where
  one : Qw w W i xv pv P X
  two : Qw w W j yv qv Q Y
  dis : ∀ k ∈ X, k ∉ Y
  k : Kept [] w W
theorem Duo.symm {w W : World} {i j : Int} {xv pv yv qv : Value} {P Q : Option Pn} {X Y : List Nat} (h : Duo w W i j xv pv yv qv P Q X Y) : Duo w W j i yv qv xv pv Q P Y X := ⟨h.two, h.one, fun k hy hx => h.dis k hx hy, h.k⟩
theorem Duo.step {w W W' : World} {i j : Int} {xv pv yv qv : Value} {P Q : Option Pn} {X Y : List Nat} (h : Duo w W i j xv pv yv qv P Q X Y) (hk : Kept [] W W') : Duo w W' i j xv pv yv qv P Q X Y := ⟨h.one.step hk, h.two.step hk, h.dis, h.k.trans hk⟩
/-- One step of the first pair. -/
theorem Duo.do {w W W' : World} {i j : Int} {yv qv : Value} {Q : Option Pn} {Y : List Nat} {b mb : Nat} {v : Value} {N : Nn} {r : Nat} {lv : Value} {R : Nn} {b' mb' : Nat} {v' : Value} {N' : Nn} {lv' : Value} {R' : Nn} (h : Pw W b mb v N r lv R) (hl : N.last ≤ i) (hb : ∀ k ∈ r :: nX b mb v, w.heap.size ≤ k) (h2 : Qw w W j yv qv Q Y) (hd : ∀ k ∈ r :: nX b mb v, k ∉ Y) (hk : Kept [] w W)
    (hD : Dn W W' b mb v N r b' mb' v' N' lv' R') : Duo w W' (i + 1) j (P0 b') (P0 r) yv qv (some N'.pl) Q (r :: nX b' mb' v') Y := by
  have hs := hk.size
  have hf : ∀ k ∈ r :: nX b' mb' v', k ∈ r :: nX b mb v ∨ W.heap.size ≤ k := by
    intro k hm
    simp only [nX, List.mem_cons, Option.mem_toList] at hm ⊢
    rcases hm with rfl | rfl | rfl | hm
    · exact .inl (.inl rfl)
    · rcases hD.fb with e | e
      · exact .inl (.inr (.inl e))
      · exact .inr e
    · rcases hD.fm with e | e
      · exact .inl (.inr (.inr (.inl e)))
      · exact .inr e
    · rcases hD.fv k hm with e | e
      · exact .inl (.inr (.inr (.inr e)))
      · exact .inr e
  refine ⟨.yes b' mb' v' N' r lv' R' hD.pw (by have := hD.last; omega) (fun k hm => ?_), ?_, fun k hm hy => ?_, ?_⟩
  · rcases hf k hm with e | e
    · exact hb k e
    · omega
  · cases h2 with
    | no => exact .no
    | yes b2 mb2 v2 M r2 lv2 S h3 hl2 hb2 => exact .yes b2 mb2 v2 M r2 lv2 S (h3.apart h hd hD.k) hl2 hb2
  · rcases hf k hm with e | e
    · exact hd k e hy
    · cases h2 with
      | no => cases hy
      | yes b2 mb2 v2 M r2 lv2 S h3 hl2 hb2 => have := h3.lt k hy; omega
  · exact hk.fresh hD.k (fun k hm hlt => by have := hb k hm; omega)
/-- Are both the same? -/
def samP : Option Pn → Option Pn → Bool
  | none, none => true
  | some a, some b => decide (a.nodes = b.nodes) && (decide (a.last = b.last) && decide (a.S = b.S))
  | _, _ => false
theorem samP_refl (P : Option Pn) : samP P P = true := by cases P <;> simp [samP]
theorem same_pl (N M : Nn) : sameN N M = samP (some N.pl) (some M.pl) := rfl
theorem Duo.c14 {w W : World} {i j : Int} {xv pv yv qv : Value} {P Q : Option Pn} {X Y : List Nat} (h : Duo w W i j xv pv yv qv P Q X Y) : Calls Try.prog 14 #[xv, yv] W fun e w' => e = .returned (.bool (samP P Q)) ∧ Kept [] W w' := by
  obtain ⟨h1, h2, _, _⟩ := h
  cases h1 with
  | no =>
    cases h2 with
    | no => exact (z14 none W (.inl rfl)).mono (by rintro e w' ⟨rfl, rfl⟩; exact ⟨rfl, Kept.refl _ _⟩)
    | yes b2 mb2 v2 M r2 lv2 S h3 => exact (zn14 b2 mb2 v2 M W h3.net).mono (by rintro e w' ⟨rfl, rfl⟩; exact ⟨rfl, Kept.refl _ _⟩)
  | yes b mb v N r lv R h1 =>
    cases h2 with
    | no => exact (n14 b mb v N W h1.net).mono (by rintro e w' ⟨rfl, rfl⟩; exact ⟨rfl, Kept.refl _ _⟩)
    | yes b2 mb2 v2 M r2 lv2 S h3 => exact same14 b mb b2 mb2 v v2 N M W h1.net h3.net
theorem Duo.c14s {w W : World} {i j : Int} {xv pv yv qv : Value} {P Q : Option Pn} {X Y : List Nat} (h : Duo w W i j xv pv yv qv P Q X Y) : Calls Try.prog 14 #[xv, xv] W fun e w' => e = .returned (.bool true) ∧ Kept [] W w' := by
  obtain ⟨h1, h2, _, _⟩ := h
  cases h1 with
  | no => exact (z14 none W (.inl rfl)).mono (by rintro e w' ⟨rfl, rfl⟩; exact ⟨rfl, Kept.refl _ _⟩)
  | yes b mb v N r lv R h1 => exact (same14 b mb b mb v v N N W h1.net h1.net).mono (by rintro e w' ⟨rfl, hk⟩; rw [sameN_refl]; exact ⟨rfl, hk⟩)
theorem Duo.c15 {w W : World} {i j : Int} {xv pv yv qv : Value} {P Q : Option Pn} {X Y : List Nat} (h : Duo w W i j xv pv yv qv P Q X Y) : Calls Try.prog 15 #[pv, qv] W fun e w' => e = .returned (.bool (samP P Q)) ∧ Kept [] W w' := by
  obtain ⟨h1, h2, _, _⟩ := h
  cases h1 with
  | no =>
    cases h2 with
    | no => exact (rs_nn W).mono (by rintro e w' ⟨rfl, rfl⟩; exact ⟨rfl, Kept.refl _ _⟩)
    | yes b2 mb2 v2 M r2 lv2 S h3 => exact (rs_n1 r2 W).mono (by rintro e w' ⟨rfl, rfl⟩; exact ⟨rfl, Kept.refl _ _⟩)
  | yes b mb v N r lv R h1 =>
    cases h2 with
    | no => exact (rs_1n r W).mono (by rintro e w' ⟨rfl, rfl⟩; exact ⟨rfl, Kept.refl _ _⟩)
    | yes b2 mb2 v2 M r2 lv2 S h3 =>
      have h9 := rsame15 r r2 lv lv2 R S W h1.ref h3.ref h1.many
      rw [same_pl, ← h1.pl, ← h3.pl] at h9
      exact h9
/-- A net that New made, or none. -/
inductive NewN (V W : World) (n : Int) : Value → Prop where
  | no (h : ¬(1 ≤ n ∧ n ≤ 8)) : NewN V W n (.pointer none)
  | yes (h : 1 ≤ n ∧ n ≤ 8) (b mb : Nat) (hb : V.heap.size ≤ b) (hm : V.heap.size ≤ mb) (hn : Nt W b mb (.slice none 0 0) (newN n)) : NewN V W n (P0 b)
theorem p7 (n : Int) (w : World) : Calls Try.prog 7 #[.int .i64 n] w fun e w' => ∃ xv c, e = .returned (.tuple #[xv, .int .i64 c]) ∧ NewN w w' n xv ∧ Kept [] w w' := by
  by_cases h : 1 ≤ n ∧ n ≤ 8
  · refine (new_yes n w h).mono ?_
    rintro e w' ⟨b, mb, rfl, h1, h2, h3, h4⟩
    exact ⟨_, _, rfl, .yes h b mb h1 h2 h3, h4⟩
  · refine (new_no n w h).mono ?_
    rintro e w' ⟨rfl, rfl⟩
    exact ⟨_, _, rfl, .no h, Kept.refl _ _⟩
inductive NewR (V W : World) (n : Int) : Value → Prop where
  | no (h : ¬(1 ≤ n ∧ n ≤ 8)) : NewR V W n (.pointer none)
  | yes (h : 1 ≤ n ∧ n ≤ 8) (r : Nat) (hr : V.heap.size ≤ r) (hR : Rt W r (.slice none 0 0) (newN n)) : NewR V W n (P0 r)
theorem p8 (n : Int) (w : World) : Calls Try.prog 8 #[.int .i64 n] w fun e w' => ∃ xv, e = .returned xv ∧ NewR w w' n xv ∧ Kept [] w w' := by
  by_cases h : 1 ≤ n ∧ n ≤ 8
  · refine (rnew_yes n w h).mono ?_
    rintro e w' ⟨r, rfl, h1, h2, h3⟩
    exact ⟨_, rfl, .yes h r h1 h2, h3⟩
  · refine (rnew_no n w h).mono ?_
    rintro e w' ⟨rfl, rfl⟩
    exact ⟨_, rfl, .no h, Kept.refl _ _⟩
theorem NewN.kept {V W W' : World} {n : Int} {x : Value} (h : NewN V W n x) (hk : Kept [] W W') : NewN V W' n x := by
  cases h with
  | no h => exact .no h
  | yes h b mb hb hm hn => exact .yes h b mb hb hm (hn.kept0 hk)
theorem NewR.kept {V W W' : World} {n : Int} {x : Value} (h : NewR V W n x) (hk : Kept [] W W') : NewR V W' n x := by
  cases h with
  | no h => exact .no h
  | yes h r hr hR => exact .yes h r hr (hR.kept0 hk)
theorem NewR.old {V V' W : World} {n : Int} {x : Value} (h : NewR V W n x) (hk : V'.heap.size ≤ V.heap.size) : NewR V' W n x := by
  cases h with
  | no h => exact .no h
  | yes h r hr hR => exact .yes h r (by omega) hR
theorem qw_new {w V1 W1 V2 W : World} {n : Int} {xv pv : Value} (hx : NewN V1 W1 n xv) (k1 : Kept [] W1 W) (hp : NewR V2 W n pv) (h1 : w.heap.size ≤ V1.heap.size) (h2 : w.heap.size ≤ V2.heap.size) : ∃ P X, Qw w W 0 xv pv P X ∧ ∀ k ∈ X, (V1.heap.size ≤ k ∧ k < W1.heap.size) ∨ pv = P0 k := by
  cases hx with
  | no h =>
    cases hp with
    | no _ => exact ⟨none, [], .no, fun k hk => by cases hk⟩
    | yes h' => exact absurd h' h
  | yes h b mb hb hm hn =>
    cases hp with
    | no h' => exact absurd h h'
    | yes _ r hr hR =>
      have hlt := hn.lt
      refine ⟨_, _, .yes b mb _ (newN n) r _ (newN n) ⟨hn.kept0 k1, hR, rfl⟩ (by show (0 : Int) ≤ 0; omega) (fun k hk => ?_), fun k hk => ?_⟩
      · simp only [nX, List.mem_cons, Value.ownBlock, Option.toList_none, List.not_mem_nil, or_false] at hk
        rcases hk with rfl | rfl | rfl <;> omega
      · simp only [nX, List.mem_cons, Value.ownBlock, Option.toList_none, List.not_mem_nil, or_false] at hk
        rcases hk with rfl | rfl | rfl
        · exact .inr rfl
        · exact .inl ⟨hb, hlt.1⟩
        · exact .inl ⟨hm, hlt.2.1⟩

end Go.Proofs.Ytpcggcicpojdoaa
