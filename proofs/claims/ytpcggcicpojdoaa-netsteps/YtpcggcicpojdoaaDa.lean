/-
  What each step of do makes of a net, on plain data, and the calls that do makes, by it.
-/
import Derived.Test.YtpcggcicpojdoaaSe
import Derived.Test.YtpcggcicpojdoaaKna
namespace Go.Proofs.Ytpcggcicpojdoaa
open Go.RowKit

/-- A net as plain data. -/
structure Pn where
  nodes : Int
  last : Int
  S : List (Int × Int × Int × List Int)
def Nn.pl (N : Nn) : Pn := ⟨N.nodes, N.last, sigs N.L⟩
def pidx (k : Int) : List (Int × Int × Int × List Int) → Nat → Option (Nat × (Int × Int × Int × List Int))
  | [], _ => none
  | s :: r, i => if k = s.1 then some (i, s) else pidx k r (i + 1)
theorem pidx_place (k : Int) : ∀ (L : List Ltr) (i : Nat), pidx k (sigs L) i = (placeOf k L i).map (fun x => (x.1, x.2.sig)) := by
  intro L
  induction L with
  | nil => intro i; rfl
  | cons l L ih =>
    intro i
    show (if k = l.num then some (i, l.sig) else pidx k (sigs L) (i + 1)) = Option.map (fun x => (x.1, x.2.sig)) (if k = l.num then some (i, l) else placeOf k L (i + 1))
    by_cases h : k = l.num
    · rw [if_pos h, if_pos h]; rfl
    · rw [if_neg h, if_neg h]; exact ih (i + 1)
theorem sigs_len (L : List Ltr) : (sigs L).length = L.length := by simp [sigs]
theorem sigs_erase (L : List Ltr) (i : Nat) : sigs (L.eraseIdx i) = (sigs L).eraseIdx i := by
  unfold sigs
  rw [List.eraseIdx_eq_take_drop_succ, List.eraseIdx_eq_take_drop_succ]
  simp
def pmay (n fr to : Int) : Bool := hasN n fr && hasN n to && decide (fr ≠ to)
theorem pmay_iff (n fr to : Int) : pmay n fr to = true ↔ mayS n fr to := by
  unfold pmay mayS hasN
  simp only [Bool.and_eq_true, decide_eq_true_eq]
  constructor
  · rintro ⟨⟨⟨a, b⟩, c, d⟩, e⟩; exact ⟨a, b, c, d, e⟩
  · rintro ⟨a, b, c, d, e⟩; exact ⟨⟨⟨a, b⟩, c, d⟩, e⟩
def pput (P : Pn) (fr to : Int) (bs : List Int) : Pn := ⟨P.nodes, P.last + 1, P.S ++ [(P.last + 1, fr, to, bs)]⟩
def psend (P : Pn) (fr to : Int) (bs : List Int) : Pn × Int × Int :=
  if pmay P.nodes fr to = false then (P, 0, 2) else if 512 < bs.length then (P, 0, 3) else if 4096 ≤ P.S.length then (P, 0, 5) else (pput P fr to bs, P.last + 1, 0)
def pdel (P : Pn) (k : Int) : Pn × (Int × Int × Int × List Int) × Int := match pidx k P.S 0 with
  | none => (P, (0, 0, 0, []), 6)
  | some x => (⟨P.nodes, P.last, P.S.eraseIdx x.1⟩, x.2, 0)
def pdbl (P : Pn) (k : Int) : Pn × Int × Int := match pidx k P.S 0 with
  | none => (P, 0, 6)
  | some x => if 4096 ≤ P.S.length then (P, 0, 5) else (pput P x.2.2.1 x.2.2.2.1 x.2.2.2.2, P.last + 1, 0)
theorem psend_last (P : Pn) (fr to : Int) (bs : List Int) : (psend P fr to bs).1.last ≤ P.last + 1 := by
  unfold psend pput
  split
  · simp; omega
  · split
    · simp; omega
    · split <;> simp; omega
theorem pdbl_last (P : Pn) (k : Int) : (pdbl P k).1.last ≤ P.last + 1 := by
  unfold pdbl pput
  split
  · simp; omega
  · split <;> simp; omega
theorem pdel_last (P : Pn) (k : Int) : (pdel P k).1.last ≤ P.last + 1 := by
  unfold pdel
  split <;> simp <;> omega
theorem pdel_none {N : Nn} {k : Int} (h : placeOf k N.L 0 = none) : pdel N.pl k = (N.pl, (0, 0, 0, []), 6) := by
  unfold pdel Nn.pl
  simp only [pidx_place, h, Option.map_none]
theorem pdel_some {N : Nn} {k : Int} {i : Nat} {l : Ltr} (h : placeOf k N.L 0 = some (i, l)) : pdel N.pl k = ((⟨N.nodes, N.last, N.L.eraseIdx i⟩ : Nn).pl, l.sig, 0) := by
  unfold pdel Nn.pl
  simp only [pidx_place, h, Option.map_some, sigs_erase]
theorem pdbl_none {N : Nn} {k : Int} (h : placeOf k N.L 0 = none) : pdbl N.pl k = (N.pl, 0, 6) := by
  unfold pdbl Nn.pl
  simp only [pidx_place, h, Option.map_none]
theorem pput_pl (N : Nn) (fr to : Int) (u : Value) (bs : List Int) : (⟨N.nodes, N.last + 1, N.L ++ [⟨N.last + 1, fr, to, u, bs⟩]⟩ : Nn).pl = pput N.pl fr to bs := by
  simp [Nn.pl, pput, sigs, Ltr.sig]
theorem pdbl_full {N : Nn} {k : Int} {i : Nat} {l : Ltr} (h : placeOf k N.L 0 = some (i, l)) (hf : 4096 ≤ N.L.length) : pdbl N.pl k = (N.pl, 0, 5) := by
  unfold pdbl
  rw [show pidx k N.pl.S 0 = some (i, l.sig) from by show pidx k (sigs N.L) 0 = _; rw [pidx_place, h]; rfl]
  simp only
  rw [if_pos (by show 4096 ≤ (sigs N.L).length; rw [sigs_len]; exact hf)]
theorem pdbl_yes {N : Nn} {k : Int} {i : Nat} {l : Ltr} (h : placeOf k N.L 0 = some (i, l)) (hf : N.L.length < 4096) : pdbl N.pl k = (pput N.pl l.fr l.to l.bs, N.last + 1, 0) := by
  unfold pdbl
  rw [show pidx k N.pl.S 0 = some (i, l.sig) from by show pidx k (sigs N.L) 0 = _; rw [pidx_place, h]; rfl]
  simp only
  rw [if_neg (by show ¬ 4096 ≤ (sigs N.L).length; rw [sigs_len]; omega)]
  rfl
theorem psend_arg {N : Nn} {fr to : Int} {bs : List Int} (h : pmay N.nodes fr to = false) : psend N.pl fr to bs = (N.pl, 0, 2) := by
  unfold psend
  rw [if_pos (show pmay N.pl.nodes fr to = false from h)]
theorem psend_long {N : Nn} {fr to : Int} {bs : List Int} (h : pmay N.nodes fr to = true) (hm : 512 < bs.length) : psend N.pl fr to bs = (N.pl, 0, 3) := by
  unfold psend
  rw [if_neg (by show ¬ pmay N.nodes fr to = false; rw [h]; simp), if_pos hm]
theorem psend_full {N : Nn} {fr to : Int} {bs : List Int} (h : pmay N.nodes fr to = true) (hm : bs.length ≤ 512) (hf : 4096 ≤ N.L.length) : psend N.pl fr to bs = (N.pl, 0, 5) := by
  unfold psend
  rw [if_neg (by show ¬ pmay N.nodes fr to = false; rw [h]; simp), if_neg (by omega), if_pos (by show 4096 ≤ (sigs N.L).length; rw [sigs_len]; exact hf)]
theorem psend_yes {N : Nn} {fr to : Int} {bs : List Int} (h : pmay N.nodes fr to = true) (hm : bs.length ≤ 512) (hf : N.L.length < 4096) : psend N.pl fr to bs = (pput N.pl fr to bs, N.last + 1, 0) := by
  unfold psend
  rw [if_neg (by show ¬ pmay N.nodes fr to = false; rw [h]; simp), if_neg (by omega), if_neg (by show ¬ 4096 ≤ (sigs N.L).length; rw [sigs_len]; omega)]
  rfl
/-- The letters of a net that was written since are the old ones, or lie in rows that were made since. -/
def NewL (w : World) (L L' : List Ltr) : Prop := ∀ l ∈ L', l ∈ L ∨ ∀ k, l.v.ownBlock = some k → w.heap.size ≤ k
theorem NewL.refl (w : World) (L : List Ltr) : NewL w L L := fun _ h => .inl h
theorem NewL.one {w : World} {L : List Ltr} {l : Ltr} (h : ∀ k, l.v.ownBlock = some k → w.heap.size ≤ k) : NewL w L (L ++ [l]) := by
  intro x hx
  rcases List.mem_append.1 hx with hx | hx
  · exact .inl hx
  · simp at hx; subst hx; exact .inr h
/-- What a call that writes a net leaves. -/
structure Mut (w w' : World) (b mb : Nat) (v v' : Value) (N' : Nn) (P : Pn) : Prop where
  nt : Nt w' b mb v' N'
  pl : N'.pl = P
  k : Kept (nX b mb v) w w'
  v : ∀ i, v'.ownBlock = some i → v.ownBlock = some i ∨ w.heap.size ≤ i
structure Rut (w w' : World) (r : Nat) (lv' : Value) (R' : Nn) (P : Pn) : Prop where
  rt : Rt w' r lv' R'
  pl : R'.pl = P
  k : Kept [r] w w'
theorem Mut.same {w : World} {b mb : Nat} {v : Value} {N : Nn} (h : Nt w b mb v N) : Mut w w b mb v v N N.pl := ⟨h, rfl, Kept.refl _ _, fun _ h => .inl h⟩
theorem Mut.kept0 {w w' : World} {b mb : Nat} {v : Value} {N : Nn} (h : Nt w b mb v N) (hk : Kept [] w w') : Mut w w' b mb v v N N.pl := ⟨h.kept0 hk, rfl, hk.mono (by simp), fun _ h => .inl h⟩
theorem Rut.same {w : World} {r : Nat} {lv : Value} {R : Nn} (h : Rt w r lv R) : Rut w w r lv R R.pl := ⟨h, rfl, Kept.refl _ _⟩
theorem Rut.kept0 {w w' : World} {r : Nat} {lv : Value} {R : Nn} (h : Rt w r lv R) (hk : Kept [] w w') : Rut w w' r lv R R.pl := ⟨h.kept0 hk, rfl, hk.mono (by simp)⟩
theorem p16 (b mb : Nat) (v : Value) (N : Nn) (fr to : Int) (ao : Option Addr) (m c : Nat) (bs : List Int) (w : World) (h : Nt w b mb v N) (hV : Vals w ao m c (u8s bs)) (hnil : ao = none → m = 0 ∧ c = 0) (hby : ∀ x ∈ bs, 0 ≤ x ∧ x < 256) (hA : bs ≠ [] → ∀ h off, ao = some ⟨h, off, none⟩ → h ≠ b) (hla : N.last ≤ 1000000000000) :
    Calls Try.prog 16 #[P0 b, .int .i64 fr, .int .i64 to, .slice ao m c] w fun e w' => ∃ v' N', e = .returned (.tuple #[.int .i64 (psend N.pl fr to bs).2.1, .int .i64 (psend N.pl fr to bs).2.2]) ∧ Mut w w' b mb v v' N' (psend N.pl fr to bs).1 ∧ NewL w N.L N'.L := by
  have hml : m = bs.length := by rw [← hV.len, u8s_len]
  cases hb : pmay N.nodes fr to with
  | false =>
    rw [psend_arg hb]
    exact (send_arg b mb v N fr to ao m c w h hb).mono (by rintro e w' ⟨rfl, rfl⟩; exact ⟨v, N, rfl, .same h, NewL.refl _ _⟩)
  | true =>
    by_cases hlong : 512 < bs.length
    · rw [psend_long hb hlong]
      exact (send_long b mb v N fr to ao m c w h hb (by omega)).mono (by rintro e w' ⟨rfl, rfl⟩; exact ⟨v, N, rfl, .same h, NewL.refl _ _⟩)
    · by_cases hf : 4096 ≤ N.L.length
      · rw [psend_full hb (by omega) hf]
        exact (send_full b mb v N fr to ao m c w h hb (by omega) hf).mono (by rintro e w' ⟨rfl, rfl⟩; exact ⟨v, N, rfl, .same h, NewL.refl _ _⟩)
      · rw [psend_yes hb (by omega) (by omega)]
        have hb2 := hb
        simp only [pmay, Bool.and_eq_true, decide_eq_true_eq, hasN] at hb2
        refine (send_put b mb v N fr to ao m c w h hb (by omega) (fun x y w' => x = .int .i64 (N.last + 1) ∧ y = .int .i64 0 ∧ ∃ v' u, Nt w' b mb v' ⟨N.nodes, N.last + 1, N.L ++ [⟨N.last + 1, fr, to, u, bs⟩]⟩ ∧ Kept (nX b mb v) w w' ∧ (∀ i, v'.ownBlock = some i → v.ownBlock = some i ∨ w.heap.size ≤ i) ∧ ∀ i, u.ownBlock = some i → w.heap.size ≤ i) ?_).mono ?_
        · refine (put_yesF b mb v N fr to ao m c bs w h hV hnil hby hA (by omega) ⟨hb2.1.1.1, hb2.1.1.2⟩ ⟨hb2.1.2.1, hb2.1.2.2⟩ hla (by omega)).mono ?_
          rintro e w' ⟨v', u, rfl, h1, h2, h3, h4⟩
          exact ⟨_, _, rfl, rfl, rfl, v', u, h1, h2, h3, h4⟩
        · rintro e w' ⟨x, y, rfl, rfl, rfl, v', u, h1, h2, h3, h4⟩
          exact ⟨v', _, rfl, ⟨h1, pput_pl _ _ _ _ _, h2, h3⟩, NewL.one h4⟩
theorem p27 (r : Nat) (lv : Value) (R : Nn) (fr to : Int) (ao : Option Addr) (m c : Nat) (bs : List Int) (w : World) (h : Rt w r lv R) (hV : Vals w ao m c (u8s bs)) (hnil : ao = none → m = 0 ∧ c = 0) (hby : ∀ x ∈ bs, 0 ≤ x ∧ x < 256) (hA : bs ≠ [] → ∀ h off, ao = some ⟨h, off, none⟩ → h ≠ r) (hla : 0 ≤ R.last ∧ R.last ≤ 1000000000000) :
    Calls Try.prog 27 #[P0 r, .int .i64 fr, .int .i64 to, .slice ao m c] w fun e w' => ∃ lv' R', e = .returned (.tuple #[.int .i64 (psend R.pl fr to bs).2.1, .int .i64 (psend R.pl fr to bs).2.2]) ∧ Rut w w' r lv' R' (psend R.pl fr to bs).1 ∧ NewL w R.L R'.L := by
  have hml : m = bs.length := by rw [← hV.len, u8s_len]
  cases hb : pmay R.nodes fr to with
  | false =>
    rw [psend_arg hb]
    exact (rsend_arg r lv R fr to ao m c w h (fun h9 => by rw [(pmay_iff _ _ _).2 h9] at hb; cases hb)).mono (by rintro e w' ⟨rfl, rfl⟩; exact ⟨lv, R, rfl, .same h, NewL.refl _ _⟩)
  | true =>
    have hb2 := (pmay_iff _ _ _).1 hb
    by_cases hlong : 512 < bs.length
    · rw [psend_long hb hlong]
      exact (rsend_long r lv R fr to ao m c w h hb2 (by omega)).mono (by rintro e w' ⟨rfl, rfl⟩; exact ⟨lv, R, rfl, .same h, NewL.refl _ _⟩)
    · by_cases hf : 4096 ≤ R.L.length
      · rw [psend_full hb (by omega) hf]
        exact (rsend_full r lv R fr to ao m c w h hb2 (by omega) hf).mono (by rintro e w' ⟨rfl, rfl⟩; exact ⟨lv, R, rfl, .same h, NewL.refl _ _⟩)
      · rw [psend_yes hb (by omega) (by omega)]
        refine (rsend_yes r lv R fr to ao m c w h bs hV hnil hby hA hb2 (by omega) hla (by omega)).mono ?_
        rintro e w' ⟨lv', u, rfl, h1, h2, h3⟩
        exact ⟨lv', _, rfl, ⟨h1, pput_pl _ _ _ _ _, h2⟩, NewL.one h3⟩
theorem p18 (b mb : Nat) (v : Value) (N : Nn) (k : Int) (w : World) (h : Nt w b mb v N) :
    Calls Try.prog 18 #[P0 b, .int .i64 k] w fun e w' => ∃ v' N', ∃ l : Ltr, e = .returned (.tuple #[aggV l.C, .int .i64 (pdel N.pl k).2.2]) ∧ l.sig = (pdel N.pl k).2.1 ∧ Bod w' l.v l.bs ∧ Mut w w' b mb v v' N' (pdel N.pl k).1 := by
  cases hp : placeOf k N.L 0 with
  | none =>
    rw [pdel_none hp]
    exact (deliver_none b mb v N k w h hp).mono (by rintro e w' ⟨rfl, hk⟩; exact ⟨v, N, zLtr, rfl, rfl, bod_nil _, .kept0 h hk⟩)
  | some x =>
    obtain ⟨i, l⟩ := x
    rw [pdel_some hp]
    refine (deliver_yes b mb v N k w h i l hp).mono ?_
    rintro e w' ⟨v', u, rfl, h1, h2, h3, h4⟩
    exact ⟨v', _, ⟨l.num, l.fr, l.to, u, l.bs⟩, rfl, rfl, h2, h1, rfl, h3, fun i hi => .inl (by rw [← h4]; exact hi)⟩
theorem p28 (r : Nat) (lv : Value) (R : Nn) (k : Int) (w : World) (h : Rt w r lv R) (hmany : R.L.length ≤ 4096) :
    Calls Try.prog 28 #[P0 r, .int .i64 k] w fun e w' => ∃ lv' R', ∃ l : Ltr, e = .returned (.tuple #[aggV l.C, .int .i64 (pdel R.pl k).2.2]) ∧ l.sig = (pdel R.pl k).2.1 ∧ Bod w' l.v l.bs ∧ Rut w w' r lv' R' (pdel R.pl k).1 := by
  cases hp : placeOf k R.L 0 with
  | none =>
    rw [pdel_none hp]
    exact (rdeliver_none r lv R k w h hmany hp).mono (by rintro e w' ⟨rfl, hk⟩; exact ⟨lv, R, zLtr, rfl, rfl, bod_nil _, .kept0 h hk⟩)
  | some x =>
    obtain ⟨i, l⟩ := x
    rw [pdel_some hp]
    refine (rdeliver_yes r lv R k w h hmany i l hp).mono ?_
    rintro e w' ⟨lv', rfl, h1, h2, h3⟩
    exact ⟨lv', _, l, rfl, rfl, h2, h1, rfl, h3⟩
theorem p20 (b mb : Nat) (v : Value) (N : Nn) (k : Int) (w : World) (h : Nt w b mb v N) :
    Calls Try.prog 20 #[P0 b, .int .i64 k] w fun e w' => ∃ v' N', e = .returned (.int .i64 (pdel N.pl k).2.2) ∧ Mut w w' b mb v v' N' (pdel N.pl k).1 := by
  cases hp : placeOf k N.L 0 with
  | none =>
    rw [pdel_none hp]
    exact (drop_none b mb v N k w h hp).mono (by rintro e w' ⟨rfl, hk⟩; exact ⟨v, N, rfl, .kept0 h hk⟩)
  | some x =>
    obtain ⟨i, l⟩ := x
    rw [pdel_some hp]
    refine (drop_yes b mb v N k w h i l hp).mono ?_
    rintro e w' ⟨v', rfl, h1, h2, h3⟩
    exact ⟨v', _, rfl, h1, rfl, h2, fun i hi => .inl (by rw [← h3]; exact hi)⟩
theorem p17 (b mb : Nat) (v : Value) (N : Nn) (k : Int) (w : World) (h : Nt w b mb v N) (hla : N.last ≤ 1000000000000) :
    Calls Try.prog 17 #[P0 b, .int .i64 k] w fun e w' => ∃ v' N', e = .returned (.tuple #[.int .i64 (pdbl N.pl k).2.1, .int .i64 (pdbl N.pl k).2.2]) ∧ Mut w w' b mb v v' N' (pdbl N.pl k).1 := by
  cases hp : placeOf k N.L 0 with
  | none =>
    rw [pdbl_none hp]
    exact (double_none b mb v N k w h hp).mono (by rintro e w' ⟨rfl, hk⟩; exact ⟨v, N, rfl, .kept0 h hk⟩)
  | some x =>
    obtain ⟨i, l⟩ := x
    by_cases hf : 4096 ≤ N.L.length
    · rw [pdbl_full hp hf]
      exact (double_full b mb v N k i l w h hp hf).mono (by rintro e w' ⟨rfl, hk⟩; exact ⟨v, N, rfl, .kept0 h hk⟩)
    · rw [pdbl_yes hp (by omega)]
      refine (double_yes b mb v N k i l w h hp hla (by omega)).mono ?_
      rintro e w' ⟨v', u, rfl, h1, h2, h3⟩
      exact ⟨v', _, rfl, h1, pput_pl _ _ _ _ _, h2, h3⟩
theorem p29 (r : Nat) (lv : Value) (R : Nn) (k : Int) (w : World) (h : Rt w r lv R) (hmany : R.L.length ≤ 4096) (hsm : ∀ l ∈ R.L, l.bs.length ≤ 512) (hla : 0 ≤ R.last ∧ R.last ≤ 1000000000000) :
    Calls Try.prog 29 #[P0 r, .int .i64 k] w fun e w' => ∃ lv' R', e = .returned (.tuple #[.int .i64 (pdbl R.pl k).2.1, .int .i64 (pdbl R.pl k).2.2]) ∧ Rut w w' r lv' R' (pdbl R.pl k).1 := by
  cases hp : placeOf k R.L 0 with
  | none =>
    rw [pdbl_none hp]
    exact (rdouble_none r lv R k w h hmany hp).mono (by rintro e w' ⟨rfl, rfl⟩; exact ⟨lv, R, rfl, .same h⟩)
  | some x =>
    obtain ⟨i, l⟩ := x
    by_cases hf : 4096 ≤ R.L.length
    · rw [pdbl_full hp hf]
      exact (rdouble_full r lv R k w h hmany i l hp hf).mono (by rintro e w' ⟨rfl, rfl⟩; exact ⟨lv, R, rfl, .same h⟩)
    · rw [pdbl_yes hp (by omega)]
      refine (rdouble_yes r lv R k w h hmany i l hp (hsm l (look_mem hp)) hla (by omega)).mono ?_
      rintro e w' ⟨lv', u, rfl, h1, h2⟩
      exact ⟨lv', _, rfl, h1, pput_pl _ _ _ _ _, h2⟩
theorem p25 (b mb : Nat) (v : Value) (N : Nn) (w : World) (h : Nt w b mb v N) :
    Calls Try.prog 25 #[P0 b] w fun e w' => ∃ v' N', e = .returned (.int .i64 N.pl.S.length) ∧ Mut w w' b mb v v' N' ⟨N.nodes, N.last, []⟩ := by
  refine (clear25 b mb v N w h).mono ?_
  rintro e w' ⟨rfl, h1, h2⟩
  exact ⟨_, _, by show _ = Ending.returned (.int .i64 (sigs N.L).length); rw [sigs_len], h1, rfl, h2, fun i hi => by cases hi⟩
theorem p30 (r : Nat) (lv : Value) (R : Nn) (w : World) (h : Rt w r lv R) :
    Calls Try.prog 30 #[P0 r] w fun e w' => ∃ lv' R', e = .returned (.int .i64 R.pl.S.length) ∧ Rut w w' r lv' R' ⟨R.nodes, R.last, []⟩ := by
  refine (rclear30 r lv R w h).mono ?_
  rintro e w' ⟨rfl, h1, h2⟩
  exact ⟨_, _, by show _ = Ending.returned (.int .i64 (sigs R.L).length); rw [sigs_len], h1, rfl, h2⟩
/-- A net and the document's net stand alike. -/
structure Pw (W : World) (b mb : Nat) (v : Value) (N : Nn) (r : Nat) (lv : Value) (R : Nn) : Prop where
  net : Nt W b mb v N
  ref : Rt W r lv R
  pl : N.pl = R.pl
theorem Pw.kept0 {W W' : World} {b mb : Nat} {v : Value} {N : Nn} {r : Nat} {lv : Value} {R : Nn} (h : Pw W b mb v N r lv R) (hk : Kept [] W W') : Pw W' b mb v N r lv R := ⟨h.net.kept0 hk, h.ref.kept0 hk, h.pl⟩
theorem Pw.last {W : World} {b mb : Nat} {v : Value} {N : Nn} {r : Nat} {lv : Value} {R : Nn} (h : Pw W b mb v N r lv R) : N.last = R.last := congrArg Pn.last h.pl
theorem Pw.nodes {W : World} {b mb : Nat} {v : Value} {N : Nn} {r : Nat} {lv : Value} {R : Nn} (h : Pw W b mb v N r lv R) : N.nodes = R.nodes := congrArg Pn.nodes h.pl
theorem Pw.sig {W : World} {b mb : Nat} {v : Value} {N : Nn} {r : Nat} {lv : Value} {R : Nn} (h : Pw W b mb v N r lv R) : sigs N.L = sigs R.L := congrArg Pn.S h.pl
theorem Pw.many {W : World} {b mb : Nat} {v : Value} {N : Nn} {r : Nat} {lv : Value} {R : Nn} (h : Pw W b mb v N r lv R) : R.L.length ≤ 4096 := by
  rw [← sigs_len, ← h.sig, sigs_len]; exact h.net.many
theorem sig_mem {L M : List Ltr} (h : sigs L = sigs M) {l : Ltr} (hl : l ∈ M) : ∃ l' ∈ L, l'.sig = l.sig := by
  have : l.sig ∈ sigs L := by rw [h]; exact List.mem_map.2 ⟨l, hl, rfl⟩
  exact List.mem_map.1 this
theorem Pw.small {W : World} {b mb : Nat} {v : Value} {N : Nn} {r : Nat} {lv : Value} {R : Nn} (h : Pw W b mb v N r lv R) : ∀ l ∈ R.L, l.bs.length ≤ 512 := by
  intro l hl
  obtain ⟨l', hl', e⟩ := sig_mem h.sig hl
  have e2 : l'.bs = l.bs := congrArg (fun x => x.2.2.2) e
  rw [← e2]
  exact h.net.small l' hl'
theorem Pw.la {W : World} {b mb : Nat} {v : Value} {N : Nn} {r : Nat} {lv : Value} {R : Nn} (h : Pw W b mb v N r lv R) (hla : N.last ≤ 1000000000000) : 0 ≤ R.last ∧ R.last ≤ 1000000000000 := by
  rw [← h.last]; exact ⟨h.net.last, hla⟩
theorem blk_ty {W : World} {k T T' : Nat} {vs us : List Value} (h : Blk W k T vs) (h' : Blk W k T' us) : T = T' := by
  unfold Blk at h h'
  rw [h] at h'
  injection h' with h'
  injection h'
theorem Rt.mut {W W' : World} {b mb : Nat} {v v' : Value} {N N' : Nn} {r : Nat} {lv : Value} {R : Nn} {P : Pn} (h : Rt W r lv R) (hn : Nt W b mb v N) (hm : Mut W W' b mb v v' N' P) : Rt W' r lv R := by
  refine h.kept hm.k fun k hk cs T p hc => ?_
  simp only [nX, List.mem_cons, Option.mem_toList] at hk
  rcases hk with rfl | rfl | hk
  · have h1 := hn.head
    unfold Blk at h1
    rw [h1] at hc
    cases hc
    decide
  · exact absurd rfl (map_not_cells hn.map hc)
  · obtain ⟨cs', hc'⟩ := owns_block hn.ord k hk
    rw [hc'] at hc
    cases hc
    decide
theorem Nt.rut {W W' : World} {b mb : Nat} {v : Value} {N : Nn} {r : Nat} {lv lv' : Value} {R R' : Nn} {P : Pn} (h : Nt W b mb v N) (hr : Rt W r lv R) (hm : Rut W W' r lv' R' P) : Nt W' b mb v N := by
  refine h.kept hm.k fun k hk => ?_
  obtain ⟨o, hko, hkm⟩ := hk
  simp at hkm
  subst hkm
  have h1 := hr.head
  unfold Blk at h1
  constructor
  · simp only [nX, List.mem_cons, Option.mem_toList, not_or]
    refine ⟨?_, map_not_cells h.map h1, ?_⟩
    · rintro rfl
      exact absurd (blk_ty hr.head h.head) (by decide)
    · intro e
      obtain ⟨cs', hc'⟩ := owns_block h.ord k e
      rw [h1] at hc'
      cases hc'
  · intro l hl e
    obtain ⟨cs', hc'⟩ := (h.body l hl).block k e
    rw [h1] at hc'
    cases hc'
/-- What do leaves. -/
structure Dn (w w' : World) (b mb : Nat) (v : Value) (N : Nn) (r : Nat) (b' mb' : Nat) (v' : Value) (N' : Nn) (lv' : Value) (R' : Nn) : Prop where
  pw : Pw w' b' mb' v' N' r lv' R'
  last : N'.last ≤ N.last + 1
  nodes : N'.nodes = N.nodes
  k : Kept (r :: nX b mb v) w w'
  fb : b' = b ∨ w.heap.size ≤ b'
  fm : mb' = mb ∨ w.heap.size ≤ mb'
  fv : ∀ i, v'.ownBlock = some i → v.ownBlock = some i ∨ w.heap.size ≤ i
theorem Dn.same {w w' : World} {b mb : Nat} {v : Value} {N : Nn} {r : Nat} {lv : Value} {R : Nn} (h : Pw w b mb v N r lv R) (hk : Kept [] w w') : Dn w w' b mb v N r b mb v N lv R := ⟨h.kept0 hk, by omega, rfl, hk.mono (by simp), .inl rfl, .inl rfl, fun _ h => .inl h⟩
/-- Both nets went on alike. -/
theorem Dn.both {w W W1 W2 w' : World} {b mb : Nat} {v v' : Value} {N N' : Nn} {r : Nat} {lv lv' : Value} {R R' : Nn} {P : Pn} (h : Pw W b mb v N r lv R) (hk : Kept [] w W) (hm : Mut W W1 b mb v v' N' P) (hr : Rut W1 W2 r lv' R' P) (hk2 : Kept [] W2 w') (hla : P.last ≤ N.last + 1) (hno : P.nodes = N.nodes) : Dn w w' b mb v N r b mb v' N' lv' R' := by
  refine ⟨⟨(hm.nt.rut (h.ref.mut h.net hm) hr).kept0 hk2, hr.rt.kept0 hk2, hm.pl.trans hr.pl.symm⟩, by rw [show N'.last = P.last from congrArg Pn.last hm.pl]; exact hla, by rw [← hno]; exact congrArg Pn.nodes hm.pl, ?_, .inl rfl, .inl rfl, fun i hi => ?_⟩
  · exact (((hk.mono (by simp)).trans (hm.k.mono (by simp; intro a ha; exact .inr ha))).trans (hr.k.mono (by simp))).trans (hk2.mono (by simp))
  · rcases hm.v i hi with h | h
    · exact .inl h
    · exact .inr (by have := hk.size; omega)
theorem psend_nodes (P : Pn) (fr to : Int) (bs : List Int) : (psend P fr to bs).1.nodes = P.nodes := by
  unfold psend pput
  split
  · rfl
  · split
    · rfl
    · split <;> rfl
theorem pdbl_nodes (P : Pn) (k : Int) : (pdbl P k).1.nodes = P.nodes := by
  unfold pdbl pput
  split
  · rfl
  · split <;> rfl
theorem pdel_nodes (P : Pn) (k : Int) : (pdel P k).1.nodes = P.nodes := by
  unfold pdel
  split <;> rfl

end Go.Proofs.Ytpcggcicpojdoaa
