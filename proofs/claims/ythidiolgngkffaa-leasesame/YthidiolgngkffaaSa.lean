/-
  LeaseSame.
-/
import Derived.Test.YthidiolgngkffaaWa
namespace Go.Proofs.Ythidiolgngkffaa
set_option maxRecDepth 100000
open Go.RowKit


/-- A watch that may be none, made since V. -/
def Pn (V W : World) (T : Nat) (o : Option Wt) (u : Value) : Prop := match o with
  | none => u = .pointer none
  | some v => ∃ b, u = P0 b ∧ V.heap.size ≤ b ∧ Blk W b T v.C
theorem Pn.kept {V W W' : World} {T : Nat} {o : Option Wt} {u : Value} (h : Pn V W T o u) (hk : Kept [] W W') : Pn V W' T o u := by
  cases o with
  | none => exact h
  | some v => obtain ⟨b, h1, h2, h3⟩ := h; exact ⟨b, h1, h2, h3.kept hk (by simp)⟩
theorem Pn.base {V V' W : World} {T : Nat} {o : Option Wt} {u : Value} (h : Pn V W T o u) (hk : V'.heap.size ≤ V.heap.size) : Pn V' W T o u := by
  cases o with
  | none => exact h
  | some v => obtain ⟨b, h1, h2, h3⟩ := h; exact ⟨b, h1, by omega, h3⟩
/-- u lies in no block from n on. -/
theorem Pn.ne {V W V' W' : World} {T U : Nat} {o q : Option Wt} {u x : Value} (h : Pn V W T o u) (hx : Pn V' W' U q x) (hle : W.heap.size ≤ V'.heap.size) : u ≠ x ∨ u = .pointer none := by
  cases o with
  | none => exact .inr h
  | some v =>
    obtain ⟨b, rfl, h2, h3⟩ := h
    refine .inl ?_
    rintro rfl
    cases q with
    | none => cases hx
    | some y =>
      obtain ⟨d, e, h4, h5⟩ := hx
      cases e
      have := h3.lt
      omega
def newO (n p : Int) : Option Wt := if sizeOk n p then some ⟨n, p, lk8⟩ else none
def okO (A : Int) (o : Option Wt) : Prop := ∀ v, o = some v → v.Ok A
theorem newO_ok (n p : Int) : okO 0 (newO n p) := by
  intro v hv
  unfold newO at hv
  split at hv
  · cases hv; exact new_ok (by assumption)
  · cases hv
theorem newO15 (n p : Int) (w : World) : Calls Try.prog 15 #[.int .i64 n, .int .i64 p] w fun e w' => ∃ u r, e = .returned (.tuple #[u, .int .i64 r]) ∧ Pn w w' 65 (newO n p) u ∧ Kept [] w w' := by
  unfold newO
  cases hz : sizeOk n p with
  | true => exact (new_yes n p w hz).mono (fun e w' ⟨b, h1, h2, h3, h4⟩ => ⟨P0 b, 0, h1, ⟨b, rfl, by omega, h3⟩, h4⟩)
  | false => exact (new_no n p w hz).mono (fun e w' ⟨h1, h2⟩ => ⟨.pointer none, 2, h1, rfl, by rw [h2]; exact Kept.refl _ _⟩)
theorem newO16 (n p : Int) (w : World) : Calls Try.prog 16 #[.int .i64 n, .int .i64 p] w fun e w' => ∃ u, e = .returned u ∧ Pn w w' 79 (newO n p) u ∧ Kept [] w w' := by
  unfold newO
  cases hz : sizeOk n p with
  | true => exact (rnew_yes n p w hz).mono (fun e w' ⟨b, h1, h2, h3, h4⟩ => ⟨P0 b, h1, ⟨b, rfl, by omega, h3⟩, h4⟩)
  | false => exact (rnew_no n p w hz).mono (fun e w' ⟨h1, h2⟩ => ⟨.pointer none, h1, rfl, by rw [h2]; exact Kept.refl _ _⟩)
/-- Two pairs of watches, apart. -/
structure Q4 (w0 W : World) (o q : Option Wt) (x p y r : Value) : Prop where
  kept : Kept [] w0 W
  px : Pn w0 W 65 o x
  pp : Pn w0 W 79 o p
  py : Pn w0 W 65 q y
  pr : Pn w0 W 79 q r
  nx : x ≠ y ∨ x = .pointer none
  np : p ≠ r ∨ p = .pointer none
theorem Q4.step {w0 W W' : World} {o q : Option Wt} {x p y r : Value} (h : Q4 w0 W o q x p y r) (hk : Kept [] W W') : Q4 w0 W' o q x p y r := ⟨h.kept.trans hk, h.px.kept hk, h.pp.kept hk, h.py.kept hk, h.pr.kept hk, h.nx, h.np⟩
theorem Q4.swap {w0 W : World} {o q : Option Wt} {x p y r : Value} (h : Q4 w0 W o q x p y r) : Q4 w0 W q o y r x p := by
  refine ⟨h.kept, h.py, h.pr, h.px, h.pp, ?_, ?_⟩
  · rcases h.nx with e | e
    · exact .inl (fun h => e h.symm)
    · by_cases hy : y = .pointer none
      · exact .inr hy
      · exact .inl (fun h => hy (by rw [h, e]))
  · rcases h.np with e | e
    · exact .inl (fun h => e h.symm)
    · by_cases hy : r = .pointer none
      · exact .inr hy
      · exact .inl (fun h => hy (by rw [h, e]))
theorem Q4.do {w0 W W' : World} {v u : Wt} {q : Option Wt} {b c bn : Nat} {y r : Value} (h : Q4 w0 W (some v) q (P0 b) (P0 c) y r) (hB : Blk W' bn 65 u.C) (hC : Blk W' c 79 u.C) (hK : Kept [b, c] W W') (hO : bn = b ∨ W.heap.size ≤ bn) : Q4 w0 W' (some u) q (P0 bn) (P0 c) y r := by
  obtain ⟨b', eb, hb1, hb2⟩ := h.px
  cases eb
  obtain ⟨c', ec, hc1, hc2⟩ := h.pp
  cases ec
  have hs := h.kept.size
  have hy : Pn w0 W' 65 q y := by
    cases q with
    | none => exact h.py
    | some z =>
      obtain ⟨d, e, h1, h2⟩ := h.py
      refine ⟨d, e, h1, h2.kept hK ?_⟩
      have hne : d ≠ b := by
        rcases h.nx with hx | hx
        · intro e2; exact hx (by rw [e, e2])
        · cases hx
      have := blk_ne h2 hc2 (by decide)
      simp [hne, this]
  have hr : Pn w0 W' 79 q r := by
    cases q with
    | none => exact h.pr
    | some z =>
      obtain ⟨d, e, h1, h2⟩ := h.pr
      refine ⟨d, e, h1, h2.kept hK ?_⟩
      have hne : d ≠ c := by
        rcases h.np with hx | hx
        · intro e2; exact hx (by rw [e, e2])
        · cases hx
      have := blk_ne h2 hb2 (by decide)
      simp [hne, this]
  refine ⟨h.kept.fresh hK (fun i hi hl => by simp at hi; rcases hi with rfl | rfl <;> omega), ⟨bn, rfl, by rcases hO with rfl | hO <;> omega, hB⟩, ⟨c, rfl, hc1, hC⟩, hy, hr, ?_, h.np⟩
  rcases hO with rfl | hO
  · exact h.nx
  · refine .inl ?_
    intro e
    cases q with
    | none => have := h.py; rw [← e] at this; cases this
    | some z =>
      obtain ⟨d, e2, _, h2⟩ := h.py
      rw [← e] at e2
      cases e2
      have := h2.lt
      omega
theorem sameO19 {w0 W : World} {A : Int} {o q : Option Wt} {x y : Value} (hx : Pn w0 W 65 o x) (hy : Pn w0 W 65 q y) (ho : okO A o) (hq : okO A q) : Calls Try.prog 19 #[x, y] W fun e w' => e = .returned (.bool (decide (o = q))) ∧ Kept [] W w' := by
  have same : ∀ r, (Calls Try.prog 19 #[x, y] W fun e w' => e = .returned (.bool r) ∧ w' = W) → decide (o = q) = r → Calls Try.prog 19 #[x, y] W fun e w' => e = .returned (.bool (decide (o = q))) ∧ Kept [] W w' :=
    fun r h e => h.mono (fun e' w' ⟨h1, h2⟩ => ⟨by rw [e]; exact h1, by rw [h2]; exact Kept.refl _ _⟩)
  cases o with
  | none =>
    obtain rfl : x = .pointer none := hx
    cases q with
    | none => obtain rfl : y = .pointer none := hy; exact same true (same_nn _ _ _ (none_nil _) (none_nil _)) (by simp)
    | some u => obtain ⟨b, rfl, _, hb⟩ := hy; exact same false (same_ny _ _ _ (none_nil _) (none_is u b W hb (hq u rfl).n.1)) (by simp)
  | some v =>
    obtain ⟨a, rfl, _, ha⟩ := hx
    cases q with
    | none => obtain rfl : y = .pointer none := hy; exact same false (same_yn _ _ _ (none_is v a W ha (ho v rfl).n.1) (none_nil _)) (by simp)
    | some u =>
      obtain ⟨b, rfl, _, hb⟩ := hy
      have := same_yy v u a b W ha hb (ho v rfl).len (hq u rfl).len (ho v rfl).n.1 (hq u rfl).n.1
      rw [show decide (v = u) = decide (some v = some u) by simp] at this
      exact this
theorem sameO20 {w0 W : World} {A : Int} {o q : Option Wt} {x y : Value} (hx : Pn w0 W 79 o x) (hy : Pn w0 W 79 q y) (ho : okO A o) (hq : okO A q) : Calls Try.prog 20 #[x, y] W fun e w' => e = .returned (.bool (decide (o = q))) ∧ Kept [] W w' := by
  have same : ∀ r, (Calls Try.prog 20 #[x, y] W fun e w' => e = .returned (.bool r) ∧ w' = W) → decide (o = q) = r → Calls Try.prog 20 #[x, y] W fun e w' => e = .returned (.bool (decide (o = q))) ∧ Kept [] W w' :=
    fun r h e => h.mono (fun e' w' ⟨h1, h2⟩ => ⟨by rw [e]; exact h1, by rw [h2]; exact Kept.refl _ _⟩)
  cases o with
  | none =>
    obtain rfl : x = .pointer none := hx
    cases q with
    | none => obtain rfl : y = .pointer none := hy; exact same true (rsame_nn _) (by simp)
    | some u => obtain ⟨b, rfl, _, hb⟩ := hy; exact same false (rsame_ny _ _) (by simp)
  | some v =>
    obtain ⟨a, rfl, _, ha⟩ := hx
    cases q with
    | none => obtain rfl : y = .pointer none := hy; exact same false (rsame_yn _ _) (by simp)
    | some u =>
      obtain ⟨b, rfl, _, hb⟩ := hy
      have := rsame_yy v u a b W ha hb (ho v rfl).len (hq u rfl).len
      rw [show decide (v = u) = decide (some v = some u) by simp] at this
      exact this
/-- The document's two are made, in any order. -/
@[reducible] def SR (V : World) (o q : Option Wt) (d : Nat → Bool) (vs : Nat → Value) (W : World) : Prop :=
  Kept [] V W ∧ (d 6 = true → Pn V W 79 o (vs 6)) ∧ (d 13 = true → Pn V W 79 q (vs 13)) ∧ (d 6 = true → d 13 = true → vs 6 ≠ vs 13 ∨ vs 6 = .pointer none)
theorem SR.loc {V : World} {o q : Option Wt} : ∀ d d' vs vs' W, (∀ i ∈ [6, 13], d i = d' i ∧ vs i = vs' i) → SR V o q d vs W → SR V o q d' vs' W := by
  intro d d' vs vs' W H h
  have e0 := H 6 (by simp)
  have e1 := H 13 (by simp)
  unfold SR at h ⊢
  rw [← e0.1, ← e1.1, ← e0.2, ← e1.2]
  exact h
section
variable {o : Oper} {a : Act} {w : World} {K : Act → World → Prop} {Q : Exit → Act → World → Prop}
theorem o_idx51 (x : Operand) (k : Nat) (hk : k < 2) (ho : o.op = .indexAddr 51 x (.const (.int .i64 (k : Int)))) (b : Nat) (hx : a.eval x = P0 b) (h : K (a.put o.dst (.pointer (some ⟨b, k * 2, none⟩))) w) : o.wp Try.prog a w K Q := by
  have hk2 : (k : Int) < 2 := by omega
  unfold Oper.wp execOp
  simp only [ho, hx]
  simp [go_sem, Act.eval, hk2]
  exact h
theorem o_idx38 (x : Operand) (k i : Nat) (hk : k < 2) (ho : o.op = .indexAddr 38 x (.const (.int .i64 (k : Int)))) (b : Nat) (hx : a.eval x = .pointer (some ⟨b, i, none⟩)) (h : K (a.put o.dst (.pointer (some ⟨b, i + k, none⟩))) w) : o.wp Try.prog a w K Q := by
  have hk2 : (k : Int) < 2 := by omega
  unfold Oper.wp execOp
  simp only [ho, hx]
  simp [go_sem, Act.eval, hk2]
  exact h
theorem o_eqlBB (x y : Operand) (ho : o.op = .binOp .eql 4 x y 4) (m : Bool) (hx : a.eval x = .bool m) (hy : a.eval y = .bool m) (h : K (a.put o.dst (.bool true)) w) : o.wp Try.prog a w K Q := by
  unfold Oper.wp execOp
  simp only [ho, hx, hy]
  simp [go_sem]
  exact h
end
theorem flip_ne {a b : Value} (h : a ≠ b ∨ a = .pointer none) : b ≠ a ∨ b = .pointer none := by
  by_cases hb : b = .pointer none
  · exact .inr hb
  · rcases h with h | h
    · exact .inl (fun e => h e.symm)
    · exact .inl (fun e => hb (by rw [e, h]))
/-- And they are laid into their variables. -/
@[reducible] def ST3 (V : World) (o q : Option Wt) (d : Nat → Bool) (vs : Nat → Value) (W : World) : Prop :=
  SR V o q d vs W ∧ (d 14 = true → vs 14 = vs 6 ∧ d 6 = true) ∧ (d 15 = true → vs 15 = vs 13 ∧ d 13 = true)
theorem ST3.loc {V : World} {o q : Option Wt} : ∀ d d' vs vs' W, (∀ i ∈ [6, 13, 14, 15], d i = d' i ∧ vs i = vs' i) → ST3 V o q d vs W → ST3 V o q d' vs' W := by
  intro d d' vs vs' W H h
  refine ⟨SR.loc d d' vs vs' W (fun i hi => H i (by simp at hi ⊢; omega)) h.1, ?_, ?_⟩
  · rw [← (H 14 (by simp)).1, ← (H 14 (by simp)).2, ← (H 6 (by simp)).2, ← (H 6 (by simp)).1]; exact h.2.1
  · rw [← (H 15 (by simp)).1, ← (H 15 (by simp)).2, ← (H 13 (by simp)).2, ← (H 13 (by simp)).1]; exact h.2.2
theorem sameSelf {w0 W : World} {A : Int} {o : Option Wt} {x : Value} (ho : okO A o) (hx : Pn w0 W 65 o x) : Calls Try.prog 19 #[x, x] W fun e w' => e = .returned (.bool true) ∧ Kept [] W w' := by
  have := sameO19 hx hx ho ho
  rw [decide_eq_true rfl] at this
  exact this
set_option maxHeartbeats 8000000 in
theorem same_gen (sa sb sc sd : Int) (ao : Option Addr) (N cc : Nat) (X : List Sp) (ar : Option Addr) (R cr : Nat) (Y : List Sp) (w : World) (hN : X.length = N) (hX : StepS w ao X) (hR : Y.length = R) (hY : StepS w ar Y) : Calls Try.prog 5 #[aggV [.int .i64 sa, .int .i64 sb, .int .i64 sc, .int .i64 sd], .slice ao N cc, .slice ar R cr] w fun e w' => e = .returned (.bool true) ∧ Kept [] w w' := by
  have HSX := hide hX
  have HN := hide hN
  have HSY := hide hY
  have HR := hide hR
  clear hN hX hR hY
  go_enter Try.func5, Try.ntmps5
  have M : Hid (Mm [] w w []) := hide Mm.init
  go_wp2_with (
    first
    | (refine wpBoxV rfl (.tmp 0) rfl ([.int .i64 sa, .int .i64 sb, .int .i64 sc, .int .i64 sd]) rfl ?_
       intro W1 b1 e1 B1 K1
       replace M : Hid (Mm [] w W1 [(b1, 51, [.int .i64 sa, .int .i64 sb, .int .i64 sc, .int .i64 sd])]) := hide ((unhide M).new e1 B1 K1)
       clear e1 B1 K1
       have c0 := fits_cell ((unhide M).at 0 _ rfl) 0 _ rfl
       have c1 := fits_cell ((unhide M).at 0 _ rfl) 1 _ rfl
       have c2 := fits_cell ((unhide M).at 0 _ rfl) 2 _ rfl
       have c3 := fits_cell ((unhide M).at 0 _ rfl) 3 _ rfl
       have HS1 : Hid (w.heap.size ≤ W1.heap.size) := hide (unhide M).kept.size
       refine Stp.go ?_))
  constructor
  go_wp2_with (
    first
    | (go_at_call 15
       refine (newO15 sa sb _).mono ?_
       rintro e W2 ⟨x, r1, rfl, H2, K2⟩
       have HX := hide H2
       replace M : Hid (Mm [] w W2 [(b1, 51, [.int .i64 sa, .int .i64 sb, .int .i64 sc, .int .i64 sd])]) := hide ((unhide M).step K2)
       replace c0 := K2.cell c0 (by simp)
       replace c1 := K2.cell c1 (by simp)
       replace c2 := K2.cell c2 (by simp)
       replace c3 := K2.cell c3 (by simp)
       have HS12 : Hid (W1.heap.size ≤ W2.heap.size) := hide K2.size
       clear H2 K2
       refine Stp.go ?_))
  constructor
  go_wp2_with (
    first
    | (go_at_call 15
       refine (newO15 sc sd _).mono ?_
       rintro e W3 ⟨y, r2, rfl, H3, K3⟩
       have HNX : Hid (x ≠ y ∨ x = .pointer none) := hide ((unhide HX).ne H3 (Nat.le_refl _))
       have HY := hide H3
       replace HX := hide ((unhide HX).kept K3)
       have HZ2 : Hid (W1.heap.size ≤ W2.heap.size) := HS12
       replace M : Hid (Mm [] w W3 [(b1, 51, [.int .i64 sa, .int .i64 sb, .int .i64 sc, .int .i64 sd])]) := hide ((unhide M).step K3)
       clear H3 K3 c0 c1 c2 c3
       refine Stp.go ?_))
  constructor
  go_wp2_with fail
  refine wp_region_any mixed (wpAny_gx 16 rfl (by kernel_rfl) [some (.pointer (some ⟨b1, 0, none⟩)), some (.pointer (some ⟨b1, 0, none⟩)), some (.int .i64 sa), some (.pointer (some ⟨b1, 0, none⟩)), some (.pointer (some ⟨b1, 1, none⟩)), some (.int .i64 sb), none, some (.pointer (some ⟨b1, 2, none⟩)), some (.pointer (some ⟨b1, 2, none⟩)), some (.int .i64 sc), some (.pointer (some ⟨b1, 2, none⟩)), some (.pointer (some ⟨b1, 3, none⟩)), some (.int .i64 sd), none, none, none] rfl (by kernel_rfl) (fun l vs W => (ST3 W3 (newO sa sb) (newO sc sd)) (fun i => l.getD i false) vs W) (⟨⟨⟨rfl, rfl, rfl, Nat.le_refl _, fun _ _ _ => rfl⟩, (fun h => by cases h), (fun h => by cases h), fun h => by cases h⟩, (fun h => by cases h), fun h => by cases h⟩) ?_ ?_)
  · intro ix o' hi ho a' w2 l vs hls hlf hJ hout hin hdep hnot
    match ix, ho with
    | 0, ho =>
      obtain rfl := Option.some.inj ho
      have e0 := hout 3 (by kernel_rfl)
      replace e0 : a'.eval (.tmp 3) = _ := e0.trans rfl
      exact o_idx51 (.tmp 3) 0 (by omega) rfl b1 e0 ⟨_, rfl, told_of rfl, keepG (St := (ST3 W3 (newO sa sb) (newO sc sd))) [6, 13, 14, 15] ST3.loc (by omega) (by decide) hJ⟩
    | 1, ho =>
      obtain rfl := Option.some.inj ho
      have e0 : a'.eval (.tmp 36) = .pointer (some ⟨b1, 0, none⟩) := by have h9 := hin 0 36 (by kernel_rfl) (by kernel_rfl); exact h9.1.trans (told_is _ h9.2 rfl)
      exact o_idx38 (.tmp 36) 0 _ (by omega) rfl b1 e0 ⟨_, rfl, told_of rfl, keepG (St := (ST3 W3 (newO sa sb) (newO sc sd))) [6, 13, 14, 15] ST3.loc (by omega) (by decide) hJ⟩
    | 2, ho =>
      obtain rfl := Option.some.inj ho
      have e0 : a'.eval (.tmp 37) = .pointer (some ⟨b1, 0, none⟩) := by have h9 := hin 1 37 (by kernel_rfl) (by kernel_rfl); exact h9.1.trans (told_is _ h9.2 rfl)
      exact o_load3 (.tmp 37) rfl _ _ e0 (fits_cell (((unhide M).step hJ.1.1).at 0 _ rfl) 0 _ rfl) ⟨_, rfl, told_of rfl, keepG (St := (ST3 W3 (newO sa sb) (newO sc sd))) [6, 13, 14, 15] ST3.loc (by omega) (by decide) hJ⟩
    | 3, ho =>
      obtain rfl := Option.some.inj ho
      have e0 := hout 3 (by kernel_rfl)
      replace e0 : a'.eval (.tmp 3) = _ := e0.trans rfl
      exact o_idx51 (.tmp 3) 0 (by omega) rfl b1 e0 ⟨_, rfl, told_of rfl, keepG (St := (ST3 W3 (newO sa sb) (newO sc sd))) [6, 13, 14, 15] ST3.loc (by omega) (by decide) hJ⟩
    | 4, ho =>
      obtain rfl := Option.some.inj ho
      have e0 : a'.eval (.tmp 39) = .pointer (some ⟨b1, 0, none⟩) := by have h9 := hin 3 39 (by kernel_rfl) (by kernel_rfl); exact h9.1.trans (told_is _ h9.2 rfl)
      exact o_idx38 (.tmp 39) 1 _ (by omega) rfl b1 e0 ⟨_, rfl, told_of rfl, keepG (St := (ST3 W3 (newO sa sb) (newO sc sd))) [6, 13, 14, 15] ST3.loc (by omega) (by decide) hJ⟩
    | 5, ho =>
      obtain rfl := Option.some.inj ho
      have e0 : a'.eval (.tmp 40) = .pointer (some ⟨b1, 1, none⟩) := by have h9 := hin 4 40 (by kernel_rfl) (by kernel_rfl); exact h9.1.trans (told_is _ h9.2 rfl)
      exact o_load3 (.tmp 40) rfl _ _ e0 (fits_cell (((unhide M).step hJ.1.1).at 0 _ rfl) 1 _ rfl) ⟨_, rfl, told_of rfl, keepG (St := (ST3 W3 (newO sa sb) (newO sc sd))) [6, 13, 14, 15] ST3.loc (by omega) (by decide) hJ⟩
    | 6, ho =>
      obtain rfl := Option.some.inj ho
      have e0 : a'.eval (.tmp 38) = .int .i64 sa := by have h9 := hin 2 38 (by kernel_rfl) (by kernel_rfl); exact h9.1.trans (told_is _ h9.2 rfl)
      have e1 : a'.eval (.tmp 41) = .int .i64 sb := by have h9 := hin 5 41 (by kernel_rfl) (by kernel_rfl); exact h9.1.trans (told_is _ h9.2 rfl)
      refine wp_callF 16 _ _ rfl #[.int .i64 sa, .int .i64 sb] (by simp [e0, e1]) (cg16 _ _) ((newO16 sa sb w2).mono ?_)
      rintro e w3 ⟨u3, rfl, hP, hk3⟩
      exact ⟨_, rfl, _, rfl, told_no rfl, nextG (St := (ST3 W3 (newO sa sb) (newO sc sd))) (by omega) ⟨⟨hJ.1.1.trans hk3, (fun _ => hP.base hJ.1.1.size), (fun h => (hJ.1.2.2.1 h).kept hk3), fun _ h => (by have h8 := (hJ.1.2.2.1 h).ne hP (Nat.le_refl _); exact flip_ne h8)⟩, (fun h => by have h9 : l.getD 14 false = true := h; rw [hnot 14 (by kernel_rfl)] at h9; cases h9), fun h => hJ.2.2 h⟩⟩
    | 7, ho =>
      obtain rfl := Option.some.inj ho
      have e0 := hout 3 (by kernel_rfl)
      replace e0 : a'.eval (.tmp 3) = _ := e0.trans rfl
      exact o_idx51 (.tmp 3) 1 (by omega) rfl b1 e0 ⟨_, rfl, told_of rfl, keepG (St := (ST3 W3 (newO sa sb) (newO sc sd))) [6, 13, 14, 15] ST3.loc (by omega) (by decide) hJ⟩
    | 8, ho =>
      obtain rfl := Option.some.inj ho
      have e0 : a'.eval (.tmp 43) = .pointer (some ⟨b1, 2, none⟩) := by have h9 := hin 7 43 (by kernel_rfl) (by kernel_rfl); exact h9.1.trans (told_is _ h9.2 rfl)
      exact o_idx38 (.tmp 43) 0 _ (by omega) rfl b1 e0 ⟨_, rfl, told_of rfl, keepG (St := (ST3 W3 (newO sa sb) (newO sc sd))) [6, 13, 14, 15] ST3.loc (by omega) (by decide) hJ⟩
    | 9, ho =>
      obtain rfl := Option.some.inj ho
      have e0 : a'.eval (.tmp 44) = .pointer (some ⟨b1, 2, none⟩) := by have h9 := hin 8 44 (by kernel_rfl) (by kernel_rfl); exact h9.1.trans (told_is _ h9.2 rfl)
      exact o_load3 (.tmp 44) rfl _ _ e0 (fits_cell (((unhide M).step hJ.1.1).at 0 _ rfl) 2 _ rfl) ⟨_, rfl, told_of rfl, keepG (St := (ST3 W3 (newO sa sb) (newO sc sd))) [6, 13, 14, 15] ST3.loc (by omega) (by decide) hJ⟩
    | 10, ho =>
      obtain rfl := Option.some.inj ho
      have e0 := hout 3 (by kernel_rfl)
      replace e0 : a'.eval (.tmp 3) = _ := e0.trans rfl
      exact o_idx51 (.tmp 3) 1 (by omega) rfl b1 e0 ⟨_, rfl, told_of rfl, keepG (St := (ST3 W3 (newO sa sb) (newO sc sd))) [6, 13, 14, 15] ST3.loc (by omega) (by decide) hJ⟩
    | 11, ho =>
      obtain rfl := Option.some.inj ho
      have e0 : a'.eval (.tmp 46) = .pointer (some ⟨b1, 2, none⟩) := by have h9 := hin 10 46 (by kernel_rfl) (by kernel_rfl); exact h9.1.trans (told_is _ h9.2 rfl)
      exact o_idx38 (.tmp 46) 1 _ (by omega) rfl b1 e0 ⟨_, rfl, told_of rfl, keepG (St := (ST3 W3 (newO sa sb) (newO sc sd))) [6, 13, 14, 15] ST3.loc (by omega) (by decide) hJ⟩
    | 12, ho =>
      obtain rfl := Option.some.inj ho
      have e0 : a'.eval (.tmp 47) = .pointer (some ⟨b1, 3, none⟩) := by have h9 := hin 11 47 (by kernel_rfl) (by kernel_rfl); exact h9.1.trans (told_is _ h9.2 rfl)
      exact o_load3 (.tmp 47) rfl _ _ e0 (fits_cell (((unhide M).step hJ.1.1).at 0 _ rfl) 3 _ rfl) ⟨_, rfl, told_of rfl, keepG (St := (ST3 W3 (newO sa sb) (newO sc sd))) [6, 13, 14, 15] ST3.loc (by omega) (by decide) hJ⟩
    | 13, ho =>
      obtain rfl := Option.some.inj ho
      have e0 : a'.eval (.tmp 45) = .int .i64 sc := by have h9 := hin 9 45 (by kernel_rfl) (by kernel_rfl); exact h9.1.trans (told_is _ h9.2 rfl)
      have e1 : a'.eval (.tmp 48) = .int .i64 sd := by have h9 := hin 12 48 (by kernel_rfl) (by kernel_rfl); exact h9.1.trans (told_is _ h9.2 rfl)
      refine wp_callF 16 _ _ rfl #[.int .i64 sc, .int .i64 sd] (by simp [e0, e1]) (cg16 _ _) ((newO16 sc sd w2).mono ?_)
      rintro e w3 ⟨u3, rfl, hP, hk3⟩
      exact ⟨_, rfl, _, rfl, told_no rfl, nextG (St := (ST3 W3 (newO sa sb) (newO sc sd))) (by omega) ⟨⟨hJ.1.1.trans hk3, (fun h => (hJ.1.2.1 h).kept hk3), (fun _ => hP.base hJ.1.1.size), fun h _ => ((hJ.1.2.1 h).ne hP (Nat.le_refl _))⟩, (fun h => hJ.2.1 h), (fun h => by have h9 : l.getD 15 false = true := h; rw [hnot 15 (by kernel_rfl)] at h9; cases h9)⟩⟩
    | 14, ho =>
      obtain rfl := Option.some.inj ho
      have e0 : a'.eval (.tmp 42) = vs 6 := (hin 6 42 (by kernel_rfl) (by kernel_rfl)).1
      exact wp_assignV (.tmp 42) rfl _ e0 ⟨_, rfl, told_no rfl, nextG (St := (ST3 W3 (newO sa sb) (newO sc sd))) (by omega) ⟨⟨hJ.1.1, hJ.1.2.1, hJ.1.2.2.1, hJ.1.2.2.2⟩, (fun _ => ⟨rfl, hdep 6 (by kernel_rfl)⟩), fun h => hJ.2.2 h⟩⟩
    | 15, ho =>
      obtain rfl := Option.some.inj ho
      have e0 : a'.eval (.tmp 49) = vs 13 := (hin 13 49 (by kernel_rfl) (by kernel_rfl)).1
      exact wp_assignV (.tmp 49) rfl _ e0 ⟨_, rfl, told_no rfl, nextG (St := (ST3 W3 (newO sa sb) (newO sc sd))) (by omega) ⟨⟨hJ.1.1, hJ.1.2.1, hJ.1.2.2.1, hJ.1.2.2.2⟩, (fun h => hJ.2.1 h), fun _ => ⟨rfl, hdep 13 (by kernel_rfl)⟩⟩⟩
  intro l_ vs3 V3 hl hJ htold
  have t0 : vs3 0 = .pointer (some ⟨b1, 0, none⟩) := told_is _ (htold 0 (by decide)) rfl
  have t1 : vs3 1 = .pointer (some ⟨b1, 0, none⟩) := told_is _ (htold 1 (by decide)) rfl
  have t2 : vs3 2 = .int .i64 sa := told_is _ (htold 2 (by decide)) rfl
  have t3 : vs3 3 = .pointer (some ⟨b1, 0, none⟩) := told_is _ (htold 3 (by decide)) rfl
  have t4 : vs3 4 = .pointer (some ⟨b1, 1, none⟩) := told_is _ (htold 4 (by decide)) rfl
  have t5 : vs3 5 = .int .i64 sb := told_is _ (htold 5 (by decide)) rfl
  have t7 : vs3 7 = .pointer (some ⟨b1, 2, none⟩) := told_is _ (htold 7 (by decide)) rfl
  have t8 : vs3 8 = .pointer (some ⟨b1, 2, none⟩) := told_is _ (htold 8 (by decide)) rfl
  have t9 : vs3 9 = .int .i64 sc := told_is _ (htold 9 (by decide)) rfl
  have t10 : vs3 10 = .pointer (some ⟨b1, 2, none⟩) := told_is _ (htold 10 (by decide)) rfl
  have t11 : vs3 11 = .pointer (some ⟨b1, 3, none⟩) := told_is _ (htold 11 (by decide)) rfl
  have t12 : vs3 12 = .int .i64 sd := told_is _ (htold 12 (by decide)) rfl
  rw [show (List.range 16).map vs3 = [vs3 0, vs3 1, vs3 2, vs3 3, vs3 4, vs3 5, vs3 6, vs3 7, vs3 8, vs3 9, vs3 10, vs3 11, vs3 12, vs3 13, vs3 14, vs3 15] from rfl]
  simp only [t0, t1, t2, t3, t4, t5, t7, t8, t9, t10, t11, t12, putAll, Act.put, List.setIfInBounds_toArray, List.set_cons_succ, List.set_cons_zero]
  clear t0 t1 t2 t3 t4 t5 t7 t8 t9 t10 t11 t12 htold
  obtain ⟨⟨hk3, hp6, hp13, hne⟩, he14, he15⟩ := hJ
  have e14 := (he14 (hl 14 (by decide))).1
  have e15 := (he15 (hl 15 (by decide))).1
  replace hp6 := hp6 (hl 6 (by decide))
  replace hp13 := hp13 (hl 13 (by decide))
  replace hne := hne (hl 6 (by decide)) (hl 13 (by decide))
  rw [e14, e15]
  obtain ⟨p, hpd⟩ : ∃ p, p = vs3 6 := ⟨_, rfl⟩
  obtain ⟨r, hrd⟩ : ∃ r, r = vs3 13 := ⟨_, rfl⟩
  rw [← hpd] at hp6 hne ⊢
  rw [← hrd] at hp13 hne ⊢
  have hsz := (unhide M).kept.size
  have HQ : Hid (Q4 w V3 (newO sa sb) (newO sc sd) x p y r) := hide ⟨(unhide M).kept.trans hk3, ((unhide HX).kept hk3).base (unhide HS1), hp6.base hsz, ((unhide HY).kept hk3).base (Nat.le_trans (unhide HS1) (unhide HZ2)), hp13.base hsz, unhide HNX, hne⟩
  clear hk3 hp6 hp13 hne he14 he15 e14 e15 hl hpd hrd hsz HX HY HNX HS1 HZ2 HS12 M
  go_upto_block 0 with fail
  go_cut [7, 11, 13, 14] from 50 to 77 (fun xv pv ok i wc => ∃ o xa pa, xa = xv ∧ pa = pv ∧ ok = .bool true ∧ Hid (okO 60 o) ∧ Hid (Q4 w wc o (newO sc sd) xa pa y r))
  case first =>
   as_aux_lemma =>
    go_wp2_with fail
    go_loopw [7, 11, 13, 14] (fun xx xp xo i wr => ∃ (j : Nat) (o : Option Wt) (za zp : Value), j ≤ 60 ∧ za = xx ∧ zp = xp ∧ xo = .bool true ∧ i = .int .i64 j ∧ Hid (okO j o) ∧ Hid (Q4 w wr o (newO sc sd) za zp y r)) (fun _ _ _ i _ => 60 - (intOf i).toNat)
    case atStart => exact ⟨0, _, _, _, by omega, rfl, rfl, rfl, rfl, hide (newO_ok sa sb), HQ⟩
    case round =>
    clear HQ
    obtain ⟨j, o, za, zp, hj, rfl, rfl, rfl, rfl, HO, HQ⟩ := hrel
    by_cases hjn : j < N
    rotate_left
    · have hdn : decide ((j : Int) < (N : Int)) = false := by simp; omega
      go_wp2_with fail
      go_meet
      case rel => exact ⟨_, _, _, rfl, rfl, rfl, hide (fun u hu => (unhide HO u hu).mono (by omega)), HQ⟩
    have hjnI : (j : Int) < (N : Int) := by omega
    have hdn : decide ((j : Int) < (N : Int)) = true := by simpa using hjnI
    by_cases hlt : j < 60
    rotate_left
    · have hd : decide ((j : Int) < 60) = false := by simp; omega
      go_wp2_with fail
      go_meet
      case rel => exact ⟨_, _, _, rfl, rfl, rfl, hide (fun u hu => (unhide HO u hu).mono (by omega)), HQ⟩
    have hjI : (j : Int) < 60 := by omega
    have hd : decide ((j : Int) < 60) = true := by simpa using hjI
    cases o with
    | none =>
      obtain rfl : zp = .pointer none := (unhide HQ).pp
      go_wp2_with fail
      go_meet
      case rel => exact ⟨_, _, _, rfl, rfl, rfl, hide (fun u hu => (unhide HO u hu).mono (by omega)), HQ⟩
    | some v =>
      obtain ⟨b, rfl, hb1, hb2⟩ := (unhide HQ).px
      obtain ⟨c, rfl, hc1, hc2⟩ := (unhide HQ).pp
      have HB := hide (And.intro hb2 hc2)
      clear hb1 hb2 hc1 hc2
      obtain ⟨s, hs⟩ : ∃ s, X[j]? = some s := ⟨_, List.getElem?_eq_getElem (by have := unhide HN; omega)⟩
      obtain ⟨bo, oo, rfl, hcs⟩ := (unhide HSX) j s hs
      have HXR : Hid (∀ W, Kept [] w W → W.rangeAt bo (oo + j * 5) s.C) := by
        intro W hW i u hu
        exact hW.cell (hcs i u hu) (by simp)
      clear hcs hs
      go_wp2_with (
        first
        | (refine wpLoadA row48 rfl (.tmp 72) rfl bo (oo + j * 5) rfl s.C rfl (unhide HXR _ (unhide HQ).kept) ?_
           refine Stp.go ?_))
      constructor
      go_wp2_with (
        first
        | (go_at_call 17
           refine (do17 v b c s _ (unhide HB).1 (unhide HB).2 (unhide HO v rfl) ⟨by omega, by omega⟩).mono ?_
           rintro e W9 ⟨bn, rfl, B9, C9, K9, O9⟩
           have HQ9 := hide (Q4.do (unhide HQ) B9 C9 K9 O9)
           clear B9 C9 K9 O9 HQ HB
           refine Stp.go ?_))
      constructor
      go_wp2_with fail
      go_roundw
      case rel => exact ⟨j + 1, some (v.step s), P0 bn, P0 c, by omega, rfl, rfl, rfl, by go_num, hide (fun u hu => by cases hu; exact step_ok (unhide HO v rfl) (by omega) s), HQ9⟩
      case measure => simp [intOf]; omega
  case rest =>
   as_aux_lemma =>
    obtain ⟨o1, xa, pa, rfl, rfl, rfl, HO1, HQ1⟩ := hcut
    clear HQ
    have HQ := hide (unhide HQ1).swap
    clear HQ1
    go_upto_block 2 with fail
    go_cut [9, 12, 13, 15] from 78 to 105 (fun xv pv ok i wc => ∃ o ya yr, ya = xv ∧ yr = pv ∧ ok = .bool true ∧ Hid (okO 60 o) ∧ Hid (Q4 w wc o o1 ya yr xa pa))
    case first =>
     as_aux_lemma =>
      go_wp2_with fail
      go_loopw [9, 12, 13, 15] (fun xx xp xo i wr => ∃ (j : Nat) (o : Option Wt) (za zp : Value), j ≤ 60 ∧ za = xx ∧ zp = xp ∧ xo = .bool true ∧ i = .int .i64 j ∧ Hid (okO j o) ∧ Hid (Q4 w wr o o1 za zp xa pa)) (fun _ _ _ i _ => 60 - (intOf i).toNat)
      case atStart => exact ⟨0, _, _, _, by omega, rfl, rfl, rfl, rfl, hide (newO_ok sc sd), HQ⟩
      case round =>
      clear HQ
      obtain ⟨j, o, za, zp, hj, rfl, rfl, rfl, rfl, HO, HQ⟩ := hrel
      by_cases hjn : j < R
      rotate_left
      · have hdn : decide ((j : Int) < (R : Int)) = false := by simp; omega
        go_wp2_with fail
        go_meet
        case rel => exact ⟨_, _, _, rfl, rfl, rfl, hide (fun u hu => (unhide HO u hu).mono (by omega)), HQ⟩
      have hjnI : (j : Int) < (R : Int) := by omega
      have hdn : decide ((j : Int) < (R : Int)) = true := by simpa using hjnI
      by_cases hlt : j < 60
      rotate_left
      · have hd : decide ((j : Int) < 60) = false := by simp; omega
        go_wp2_with fail
        go_meet
        case rel => exact ⟨_, _, _, rfl, rfl, rfl, hide (fun u hu => (unhide HO u hu).mono (by omega)), HQ⟩
      have hjI : (j : Int) < 60 := by omega
      have hd : decide ((j : Int) < 60) = true := by simpa using hjI
      cases o with
      | none =>
        obtain rfl : zp = .pointer none := (unhide HQ).pp
        go_wp2_with fail
        go_meet
        case rel => exact ⟨_, _, _, rfl, rfl, rfl, hide (fun u hu => (unhide HO u hu).mono (by omega)), HQ⟩
      | some v =>
        obtain ⟨b, rfl, hb1, hb2⟩ := (unhide HQ).px
        obtain ⟨c, rfl, hc1, hc2⟩ := (unhide HQ).pp
        have HB := hide (And.intro hb2 hc2)
        clear hb1 hb2 hc1 hc2
        obtain ⟨s, hs⟩ : ∃ s, Y[j]? = some s := ⟨_, List.getElem?_eq_getElem (by have := unhide HR; omega)⟩
        obtain ⟨bo, oo, rfl, hcs⟩ := (unhide HSY) j s hs
        have HXR : Hid (∀ W, Kept [] w W → W.rangeAt bo (oo + j * 5) s.C) := by
          intro W hW i u hu
          exact hW.cell (hcs i u hu) (by simp)
        clear hcs hs
        go_wp2_with (
          first
          | (refine wpLoadA row48 rfl (.tmp 100) rfl bo (oo + j * 5) rfl s.C rfl (unhide HXR _ (unhide HQ).kept) ?_
             refine Stp.go ?_))
        constructor
        go_wp2_with (
          first
          | (go_at_call 17
             refine (do17 v b c s _ (unhide HB).1 (unhide HB).2 (unhide HO v rfl) ⟨by omega, by omega⟩).mono ?_
             rintro e W9 ⟨bn, rfl, B9, C9, K9, O9⟩
             have HQ9 := hide (Q4.do (unhide HQ) B9 C9 K9 O9)
             clear B9 C9 K9 O9 HQ HB
             refine Stp.go ?_))
        constructor
        go_wp2_with fail
        go_roundw
        case rel => exact ⟨j + 1, some (v.step s), P0 bn, P0 c, by omega, rfl, rfl, rfl, by go_num, hide (fun u hu => by cases hu; exact step_ok (unhide HO v rfl) (by omega) s), HQ9⟩
        case measure => simp [intOf]; omega
    case rest =>
     as_aux_lemma =>
      obtain ⟨q, ya, yr, rfl, rfl, rfl, HOQ, HQ1⟩ := hcut
      clear HQ
      have HQ := hide (unhide HQ1).swap
      clear HQ1
      go_upto_region 13 with fail
      refine wp_text_tq 19 rfl (by kernel_rfl) [some (.bool true), some (.bool true), some (xa), some (ya), some (.bool (decide (o1 = q))), some (pa), some (yr), some (.bool (decide (o1 = q))), some (.bool true), some (.bool true), some (.bool true), some (xa), some (xa), some (.bool true), some (.bool true), some (.bool true), some (.bool true), some (.bool true), some (.bool true)] rfl (by kernel_rfl) (by kernel_rfl) ?_ ?_
      · intro i o' hi hsk ho a' w2 hout hin hk2
        replace hk2 : Kept [] wc w2 := ⟨hk2.os, hk2.tape, hk2.output, hk2.size, hk2.block⟩
        match i, ho, hsk with
        | 0, ho, hsk =>
          obtain rfl := Option.some.inj ho
          exact wp_move (.tmp 13) rfl _ ((hout 13 (by kernel_rfl)).trans rfl) ⟨_, rfl, tq_is _ _ _ _ rfl, Kept.refl _ _, fun _ _ _ _ _ => trivial⟩
        | 1, ho, hsk =>
          obtain rfl := Option.some.inj ho
          have e0 : a'.eval (.tmp 106) = .bool true := is_tq (hin 0 106 (by kernel_rfl) (by kernel_rfl)) rfl
          exact wp_move (.tmp 106) rfl _ e0 ⟨_, rfl, tq_is _ _ _ _ rfl, Kept.refl _ _, fun _ _ _ _ _ => trivial⟩
        | 2, ho, hsk =>
          obtain rfl := Option.some.inj ho
          exact wp_move (.tmp 7) rfl _ ((hout 7 (by kernel_rfl)).trans rfl) ⟨_, rfl, tq_is _ _ _ _ rfl, Kept.refl _ _, fun _ _ _ _ _ => trivial⟩
        | 3, ho, hsk =>
          obtain rfl := Option.some.inj ho
          exact wp_move (.tmp 9) rfl _ ((hout 9 (by kernel_rfl)).trans rfl) ⟨_, rfl, tq_is _ _ _ _ rfl, Kept.refl _ _, fun _ _ _ _ _ => trivial⟩
        | 4, ho, hsk =>
          obtain rfl := Option.some.inj ho
          have e0 : a'.eval (.tmp 108) = xa := is_tq (hin 2 108 (by kernel_rfl) (by kernel_rfl)) rfl
          have e1 : a'.eval (.tmp 109) = ya := is_tq (hin 3 109 (by kernel_rfl) (by kernel_rfl)) rfl
          refine wp_callF 19 _ _ rfl #[xa, ya] (by simp [e0, e1]) (cg19 _ _) ((sameO19 ((unhide HQ).step hk2).px ((unhide HQ).step hk2).py (unhide HO1) (unhide HOQ)).mono ?_)
          rintro e w3 ⟨rfl, hk3⟩
          exact ⟨_, rfl, _, rfl, tq_is _ _ _ _ rfl, hk3, fun _ _ _ _ _ => trivial⟩
        | 5, ho, hsk =>
          obtain rfl := Option.some.inj ho
          exact wp_move (.tmp 11) rfl _ ((hout 11 (by kernel_rfl)).trans rfl) ⟨_, rfl, tq_is _ _ _ _ rfl, Kept.refl _ _, fun _ _ _ _ _ => trivial⟩
        | 6, ho, hsk =>
          obtain rfl := Option.some.inj ho
          exact wp_move (.tmp 12) rfl _ ((hout 12 (by kernel_rfl)).trans rfl) ⟨_, rfl, tq_is _ _ _ _ rfl, Kept.refl _ _, fun _ _ _ _ _ => trivial⟩
        | 7, ho, hsk =>
          obtain rfl := Option.some.inj ho
          have e0 : a'.eval (.tmp 111) = pa := is_tq (hin 5 111 (by kernel_rfl) (by kernel_rfl)) rfl
          have e1 : a'.eval (.tmp 112) = yr := is_tq (hin 6 112 (by kernel_rfl) (by kernel_rfl)) rfl
          refine wp_callF 20 _ _ rfl #[pa, yr] (by simp [e0, e1]) (cg20 _ _) ((sameO20 ((unhide HQ).step hk2).pp ((unhide HQ).step hk2).pr (unhide HO1) (unhide HOQ)).mono ?_)
          rintro e w3 ⟨rfl, hk3⟩
          exact ⟨_, rfl, _, rfl, tq_is _ _ _ _ rfl, hk3, fun _ _ _ _ _ => trivial⟩
        | 8, ho, hsk =>
          obtain rfl := Option.some.inj ho
          have e0 : a'.eval (.tmp 110) = .bool (decide (o1 = q)) := is_tq (hin 4 110 (by kernel_rfl) (by kernel_rfl)) rfl
          have e1 : a'.eval (.tmp 113) = .bool (decide (o1 = q)) := is_tq (hin 7 113 (by kernel_rfl) (by kernel_rfl)) rfl
          exact o_eqlBB (.tmp 110) (.tmp 113) rfl _ e0 e1 ⟨_, rfl, tq_is _ _ _ _ rfl, Kept.refl _ _, fun _ _ _ _ _ => trivial⟩
        | 9, ho, hsk =>
          obtain rfl := Option.some.inj ho
          have e0 : a'.eval (.tmp 107) = .bool true := is_tq (hin 1 107 (by kernel_rfl) (by kernel_rfl)) rfl
          have e1 : a'.eval (.tmp 114) = .bool true := is_tq (hin 8 114 (by kernel_rfl) (by kernel_rfl)) rfl
          exact o_pick (.tmp 107) (.tmp 114) rfl _ e0 e1 ⟨_, rfl, tq_is _ _ _ _ rfl, Kept.refl _ _, fun _ _ _ _ _ => trivial⟩
        | 10, ho, hsk =>
          obtain rfl := Option.some.inj ho
          have e0 : a'.eval (.tmp 115) = .bool true := is_tq (hin 9 115 (by kernel_rfl) (by kernel_rfl)) rfl
          exact wp_move (.tmp 115) rfl _ e0 ⟨_, rfl, tq_is _ _ _ _ rfl, Kept.refl _ _, fun _ _ _ _ _ => trivial⟩
        | 11, ho, hsk =>
          obtain rfl := Option.some.inj ho
          exact wp_move (.tmp 7) rfl _ ((hout 7 (by kernel_rfl)).trans rfl) ⟨_, rfl, tq_is _ _ _ _ rfl, Kept.refl _ _, fun _ _ _ _ _ => trivial⟩
        | 12, ho, hsk =>
          obtain rfl := Option.some.inj ho
          exact wp_move (.tmp 7) rfl _ ((hout 7 (by kernel_rfl)).trans rfl) ⟨_, rfl, tq_is _ _ _ _ rfl, Kept.refl _ _, fun _ _ _ _ _ => trivial⟩
        | 13, ho, hsk =>
          obtain rfl := Option.some.inj ho
          have e0 : a'.eval (.tmp 117) = xa := is_tq (hin 11 117 (by kernel_rfl) (by kernel_rfl)) rfl
          have e1 : a'.eval (.tmp 118) = xa := is_tq (hin 12 118 (by kernel_rfl) (by kernel_rfl)) rfl
          refine wp_callF 19 _ _ rfl #[xa, xa] (by simp [e0, e1]) (cg19 _ _) ((sameSelf (unhide HO1) ((unhide HQ).step hk2).px).mono ?_)
          rintro e w3 ⟨rfl, hk3⟩
          exact ⟨_, rfl, _, rfl, tq_is _ _ _ _ rfl, hk3, fun _ _ _ _ _ => trivial⟩
        | 14, ho, hsk =>
          obtain rfl := Option.some.inj ho
          have e0 : a'.eval (.tmp 116) = .bool true := is_tq (hin 10 116 (by kernel_rfl) (by kernel_rfl)) rfl
          have e1 : a'.eval (.tmp 119) = .bool true := is_tq (hin 13 119 (by kernel_rfl) (by kernel_rfl)) rfl
          exact o_pick (.tmp 116) (.tmp 119) rfl _ e0 e1 ⟨_, rfl, tq_is _ _ _ _ rfl, Kept.refl _ _, fun _ _ _ _ _ => trivial⟩
        | 15, ho, hsk =>
          obtain rfl := Option.some.inj ho
          have e0 : a'.eval (.tmp 120) = .bool true := is_tq (hin 14 120 (by kernel_rfl) (by kernel_rfl)) rfl
          exact wp_move (.tmp 120) rfl _ e0 ⟨_, rfl, tq_is _ _ _ _ rfl, Kept.refl _ _, fun _ _ _ _ _ => trivial⟩
        | 16, ho, hsk =>
          obtain rfl := Option.some.inj ho
          refine wp_callF 13 _ _ rfl #[] (by simp) (cg13 _ _) ((known13 _).mono ?_)
          rintro e w3 ⟨rfl, hk3⟩
          exact ⟨_, rfl, _, rfl, tq_is _ _ _ _ rfl, hk3, fun _ _ _ _ _ => trivial⟩
        | 17, ho, hsk =>
          obtain rfl := Option.some.inj ho
          have e0 : a'.eval (.tmp 121) = .bool true := is_tq (hin 15 121 (by kernel_rfl) (by kernel_rfl)) rfl
          have e1 : a'.eval (.tmp 122) = .bool true := is_tq (hin 16 122 (by kernel_rfl) (by kernel_rfl)) rfl
          exact o_pick (.tmp 121) (.tmp 122) rfl _ e0 e1 ⟨_, rfl, tq_is _ _ _ _ rfl, Kept.refl _ _, fun _ _ _ _ _ => trivial⟩
        | 18, ho, hsk =>
          obtain rfl := Option.some.inj ho
          have e0 : a'.eval (.tmp 123) = .bool true := is_tq (hin 17 123 (by kernel_rfl) (by kernel_rfl)) rfl
          exact wp_assignV (.tmp 123) rfl _ e0 ⟨_, rfl, tq_is _ _ _ _ rfl, Kept.refl _ _, fun _ _ _ _ _ => trivial⟩
      intro w9 hk9
      replace hk9 : Kept [] wc w9 := ⟨hk9.os, hk9.tape, hk9.output, hk9.size, hk9.block⟩
      simp only [valsQ, List.map_cons, List.map_nil, Option.getD_some, List.take_succ_cons, List.take_zero, putAll, Act.put, List.setIfInBounds_toArray, List.set_cons_succ, List.set_cons_zero]
      go_wp2_with fail
      go_ret
      exact ⟨rfl, (unhide HQ).kept.trans hk9⟩
theorem same5 (sa sb sc sd : Int) (ao : Option Addr) (cc : Nat) (X : List Sp) (ar : Option Addr) (cr : Nat) (Y : List Sp) (w : World) (hX : StepS w ao X) (hY : StepS w ar Y) : Calls Try.prog 5 #[aggV [.int .i64 sa, .int .i64 sb, .int .i64 sc, .int .i64 sd], .slice ao X.length cc, .slice ar Y.length cr] w fun e w' => e = .returned (.bool true) ∧ Kept [] w w' :=
  same_gen sa sb sc sd ao _ cc X ar _ cr Y w rfl hX rfl hY

end Go.Proofs.Ythidiolgngkffaa
