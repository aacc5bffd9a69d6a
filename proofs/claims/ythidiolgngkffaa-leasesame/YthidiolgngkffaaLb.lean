/-
  Blocks kept in mind: one fact on all of them. Small functions.
-/
import Derived.Test.YthidiolgngkffaaLa
namespace Go.Proofs.Ythidiolgngkffaa
set_option maxRecDepth 100000
open Go.RowKit


/-- Since w0 only new blocks and those of X were written; these blocks are such ones, and have these cells. -/
structure Mm (X : List Nat) (w0 w : World) (bs : List (Nat × Nat × List Value)) : Prop where
  kept : Kept X w0 w
  blk : ∀ x ∈ bs, Blk w x.1 x.2.1 x.2.2
  own : ∀ x ∈ bs, x.1 < w0.heap.size → x.1 ∈ X
  nd : (bs.map (·.1)).Nodup
theorem Mm.init {X : List Nat} {w : World} : Mm X w w [] := ⟨Kept.refl _ _, (fun x hx => by cases hx), (fun x hx => by cases hx), List.nodup_nil⟩
theorem Mm.one {w : World} {b T : Nat} {vs : List Value} (h : Blk w b T vs) : Mm [b] w w [(b, T, vs)] := ⟨Kept.refl _ _, (fun x hx => by simp at hx; subst hx; exact h), (fun x hx _ => by simp at hx; subst hx; simp), by simp⟩
theorem Mm.two {w : World} {b T c U : Nat} {vs us : List Value} (h : Blk w b T vs) (k : Blk w c U us) (hne : b ≠ c) : Mm [b, c] w w [(b, T, vs), (c, U, us)] :=
  ⟨Kept.refl _ _, (fun x hx => by simp at hx; rcases hx with rfl | rfl; exact h; exact k), (fun x hx _ => by simp at hx; rcases hx with rfl | rfl <;> simp), by simp [hne]⟩
variable {X : List Nat}
theorem Mm.step {w0 w w' : World} {bs : List (Nat × Nat × List Value)} (h : Mm X w0 w bs) (hk : Kept [] w w') : Mm X w0 w' bs :=
  ⟨h.kept.trans (hk.mono (by simp)), fun x hx => (h.blk x hx).kept hk (by simp), h.own, h.nd⟩
theorem Mm.drew {w0 W : World} {bs : List (Nat × Nat × List Value)} (h : Mm X w0 W bs) : Mm X w0 W.drew bs := ⟨h.kept.drew, fun x hx => (h.blk x hx).drew, h.own, h.nd⟩
theorem Mm.new {w0 w W : World} {bs : List (Nat × Nat × List Value)} {b T : Nat} {vs : List Value} (h : Mm X w0 w bs) (hb : b = w.heap.size) (B : Blk W b T vs) (K : Kept [] w W) : Mm X w0 W (bs ++ [(b, T, vs)]) := by
  have h' := h.step K
  have hs := h.kept.size
  refine ⟨h'.kept, ?_, ?_, ?_⟩
  · intro x hx
    rcases List.mem_append.1 hx with hx | hx
    · exact h'.blk x hx
    · simp at hx; subst hx
      exact B
  · intro x hx hl
    rcases List.mem_append.1 hx with hx | hx
    · exact h.own x hx hl
    · simp at hx; subst hx
      simp at hl; omega
  · rw [List.map_append, List.nodup_append]
    refine ⟨h.nd, by simp, ?_⟩
    intro a ha c hc
    simp at hc; subst hc
    obtain ⟨x, hx, rfl⟩ := List.mem_map.1 ha
    have := (h.blk x hx).lt
    omega
theorem Mm.at {w0 w : World} {bs : List (Nat × Nat × List Value)} (h : Mm X w0 w bs) (i : Nat) (x : Nat × Nat × List Value) (hx : bs[i]? = some x) : Blk w x.1 x.2.1 x.2.2 := h.blk x (List.mem_of_getElem? hx)
theorem Mm.mut {w0 w w' : World} {bs : List (Nat × Nat × List Value)} (h : Mm X w0 w bs) (i : Nat) {b T : Nat} {us vs : List Value} (hi : bs[i]? = some (b, T, us)) (hk : Kept [b] w w') (hB : Blk w' b T vs) : Mm X w0 w' (bs.set i (b, T, vs)) := by
  have h0 := h.own _ (List.mem_of_getElem? hi)
  refine ⟨h.kept.fresh hk (fun k hk' hl => by simp at hk'; subst hk'; exact h0 hl), ?_, ?_, ?_⟩
  · intro x hx
    obtain ⟨j, hj, rfl⟩ := List.getElem_of_mem hx
    rw [List.length_set] at hj
    by_cases hij : i = j
    · subst hij
      rw [List.getElem_set_self]
      exact hB
    · rw [List.getElem_set_ne hij]
      have hm := h.blk bs[j] (List.getElem_mem hj)
      refine hm.kept hk ?_
      simp only [List.mem_singleton]
      intro e
      have h1 := (List.getElem?_eq_some_iff.1 hi)
      obtain ⟨hi', hi''⟩ := h1
      have := List.pairwise_iff_getElem.1 h.nd
      rcases Nat.lt_or_gt_of_ne hij with hlt | hlt
      · have := this i j (by simpa using hi') (by simpa using hj) hlt
        simp [hi''] at this
        exact this e.symm
      · have := this j i (by simpa using hj) (by simpa using hi') hlt
        simp [hi''] at this
        exact this e
  · intro x hx hl
    obtain ⟨j, hj, rfl⟩ := List.getElem_of_mem hx
    rw [List.length_set] at hj
    by_cases hij : i = j
    · subst hij
      rw [List.getElem_set_self] at hl ⊢
      exact h0 hl
    · rw [List.getElem_set_ne hij] at hl ⊢
      exact h.own bs[j] (List.getElem_mem hj) hl
  · have : (bs.set i (b, T, vs)).map (·.1) = bs.map (·.1) := by
      rw [List.map_set]
      apply List.ext_getElem?
      intro j
      by_cases hij : i = j
      · subst hij
        have h1 := (List.getElem?_eq_some_iff.1 hi)
        obtain ⟨hi', hi''⟩ := h1
        simp [hi', hi'']
      · rw [List.getElem?_set_ne hij]
    rw [this]; exact h.nd
theorem Mm.sets {w0 w : World} {bs : List (Nat × Nat × List Value)} (h : Mm X w0 w bs) (i : Nat) {b T : Nat} {us : List Value} (hi : bs[i]? = some (b, T, us)) (vs : List Value) (hl : us.length = vs.length) : Mm X w0 (w.setCells b 0 vs) (bs.set i (b, T, vs)) :=
  h.mut i hi ((Kept.refl _ _).setCells _ _ (by simp)) ((h.at i _ hi).put hl)
/-- Blocks that are forgotten. -/
theorem Mm.less {w0 w : World} {bs cs : List (Nat × Nat × List Value)} (h : Mm X w0 w bs) (hs : List.Sublist cs bs) : Mm X w0 w cs :=
  ⟨h.kept, fun x hx => h.blk x (hs.subset hx), fun x hx => h.own x (hs.subset hx), h.nd.sublist (hs.map _)⟩
/-- A block that was looked at alone. -/
theorem Kept.drop {w w' : World} {b T : Nat} {vs : List Value} (h : Kept [b] w w') (h1 : Blk w b T vs) (h2 : Blk w' b T vs) : Kept [] w w' :=
  ⟨h.os, h.tape, h.output, h.size, fun k hk _ => by
    by_cases e : k = b
    · subst e; rw [show w'.heap[k]? = _ from h2, show w.heap[k]? = _ from h1]
    · exact h.block k hk (by simpa using e)⟩
section
variable {ops : Array Oper} {rest : List Oper} {op : Oper} {a : Act} {w w0 : World} {Q : Exit → Act → World → Prop} {bs : List (Nat × Nat × List Value)}
theorem wpStoreM {T n : Nat} (hT : Row T n) (hgd : op.guard = none) (x y : Operand) (ho : op.op = .store T x y) (hd : op.dst = none) (b i : Nat) (vs : List Value) (hx : a.eval x = P0 b) (hy : a.eval y = aggV vs) (hl : vs.length = n) (h1 : ∀ v ∈ vs, v.oneCell' = true) (hM : Mm X w0 w bs) {us : List Value} (hi : bs[i]? = some (b, T, us)) (hu : us.length = n)
    (h : ∀ W, Mm X w0 W (bs.set i (b, T, vs)) → wpList Try.prog ops Q rest a W) : wpList Try.prog ops Q (op :: rest) a w := by
  refine wpStoreA hT hgd x y ho b 0 vs hx hy hl h1 ((hM.at i _ hi).there (by simp [hu])) ?_
  rw [hd]
  exact h _ (hM.sets i hi vs (by omega))
theorem size2 : (Try.prog.info? 2).map (·.size) = some 1 := by kernel_rfl
theorem size3 : (Try.prog.info? 3).map (·.size) = some 1 := by kernel_rfl
theorem size4 : (Try.prog.info? 4).map (·.size) = some 1 := by kernel_rfl
theorem size5 : (Try.prog.info? 5).map (·.size) = some 1 := by kernel_rfl
theorem storeVar1 {T : Nat} (hi : (Try.prog.info? T).map (·.size) = some 1) {w : World} {b off TT : Nat} {us : List Value} (hB : Blk w b TT us) (hl : off < us.length) (v : Value) (h1 : v.oneCell' = true) (hc1 : v.cells = #[v]) : (storeVar T ⟨b, off, none⟩ v).run Try.prog w = .ok () (w.setCell ⟨b, off, none⟩ v) := by
  have hc := hB.cell off
  rw [List.getElem?_eq_getElem hl] at hc
  have hf := hB.frozen off
  have g1 : ∀ j, j < [v].length → (w.cell? ⟨b, off + 0 + j, none⟩).isSome = true := by
    intro j hj
    have e : j = 0 := by simpa using hj
    subst e
    simp [hc]
  have g2 : ∀ j, j < [v].length → w.frozen? ⟨b, off + 0 + j, none⟩ = false := by
    intro j hj
    have e : j = 0 := by simpa using hj
    subst e
    simpa using hf
  have := run_storeCells_cells (P := Try.prog) b off [v] 0 w g1 g2 (fun u hu => by simp at hu; subst hu; exact h1)
  cases hq : Try.prog.info? T with
  | none => simp [hq] at hi
  | some i =>
    have hs : i.size = 1 := by simpa [hq] using hi
    simp [storeVar, hc1, sizeOf, typeInfo, hq, hs]
    simpa [World.setCells] using this
/-- A value of one cell. -/
def One (v : Value) : Prop := v.oneCell' = true ∧ v.cells = #[v]
theorem wpStoreM1 {T : Nat} (hs : (Try.prog.info? T).map (·.size) = some 1) (hgd : op.guard = none) (x y : Operand) (ho : op.op = .store T x y) (hd : op.dst = none) (b off i : Nat) (v : Value) (h1 : One v) (hx : a.eval x = .pointer (some ⟨b, off, none⟩)) (hy : a.eval y = v) (hM : Mm X w0 w bs) {TT : Nat} {us : List Value} (hi : bs[i]? = some (b, TT, us)) (hl : off < us.length)
    (h : ∀ W, Mm X w0 W (bs.set i (b, TT, us.set off v)) → wpList Try.prog ops Q rest a W) : wpList Try.prog ops Q (op :: rest) a w :=
  wpList_plain hgd fun K hK => by
    have hst := storeVar1 hs (hM.at i _ hi) hl v h1.1 h1.2
    unfold Oper.wp execOp
    simp only [ho, hx, hy, Instr.storeAt, Instr.sureAddr, Sem.run_bind, Sem.run_pure, Result.andThen_ok, hst]
    refine hK _ _ ?_
    rw [hd]
    exact h _ (hM.mut i hi ((Kept.refl _ _).setCell (by simp) v) ((hM.at i _ hi).set v))
end
theorem one_int (κ : IntKind) (n : Int) : One (.int κ n) := ⟨rfl, rfl⟩
theorem one_bool (b : Bool) : One (.bool b) := ⟨rfl, rfl⟩


def Le.may (l : Le) : Bool := decide (0 ≤ l.ep ∧ l.ep ≤ 2147483647 ∧ 0 ≤ l.be ∧ l.be ≤ 4611686018427387904 ∧ 0 ≤ l.re ∧ l.re ≤ 4611686018427387904)
def isN (n : Int) : Bool := decide (0 ≤ n ∧ n ≤ 4611686018427387904)
theorem isNumber41 (n : Int) (w : World) : Calls Try.prog 41 #[.int .i64 n] w fun e w' => e = .returned (.bool (isN n)) ∧ w' = w := by
  by_cases h1 : 0 ≤ n
  · go_enter Try.func41, Try.ntmps41
    go_wp2_with fail
    go_ret
    exact ⟨ret_bool (by simp [isN]; omega), rfl⟩
  · go_enter Try.func41, Try.ntmps41
    go_wp2_with fail
    go_ret
    exact ⟨ret_bool (by simp [isN]; omega), rfl⟩
theorem num11 (n : Int) (w : World) : Calls Try.prog 11 #[.int .i64 n] w fun e w' => e = .returned (.int .i64 n) ∧ w' = w := by
  go_enter Try.func11, Try.ntmps11
  go_wp2_with fail
  go_ret
  exact ⟨rfl, rfl⟩
theorem may24 (l : Le) (w : World) : Calls Try.prog 24 #[aggV l.C] w fun e w' => e = .returned (.bool l.may) ∧ Kept [] w w' := by
  by_cases h1 : 0 ≤ l.ep
  rotate_left
  · have d1 : decide (0 ≤ l.ep) = false := by simpa using h1
    go_enter Try.func24, Try.ntmps24
    have M : Hid (Mm [] w w []) := hide Mm.init
    go_wp2_with (
      first
      | (refine wpBoxV rfl (.tmp 0) rfl (l.C) rfl ?_
         intro W1 b1 e1 B1 K1
         replace M : Hid (Mm [] w W1 [(b1, 23, l.C)]) := hide ((unhide M).new e1 B1 K1)
         clear e1 B1 K1
         have c0 := fits_cell ((unhide M).at 0 _ rfl) 0 _ rfl
         have c1 := fits_cell ((unhide M).at 0 _ rfl) 1 _ rfl
         have c2 := fits_cell ((unhide M).at 0 _ rfl) 2 _ rfl
         refine Stp.go ?_))
    constructor
    go_wp2_with fail
    go_ret
    exact ⟨ret_bool (by simp [Le.may]; omega), (unhide M).kept⟩
  by_cases h2 : l.ep ≤ 2147483647
  rotate_left
  · have d1 : decide (0 ≤ l.ep) = true := by simpa using h1
    have d2 : decide (l.ep ≤ 2147483647) = false := by simpa using h2
    go_enter Try.func24, Try.ntmps24
    have M : Hid (Mm [] w w []) := hide Mm.init
    go_wp2_with (
      first
      | (refine wpBoxV rfl (.tmp 0) rfl (l.C) rfl ?_
         intro W1 b1 e1 B1 K1
         replace M : Hid (Mm [] w W1 [(b1, 23, l.C)]) := hide ((unhide M).new e1 B1 K1)
         clear e1 B1 K1
         have c0 := fits_cell ((unhide M).at 0 _ rfl) 0 _ rfl
         have c1 := fits_cell ((unhide M).at 0 _ rfl) 1 _ rfl
         have c2 := fits_cell ((unhide M).at 0 _ rfl) 2 _ rfl
         refine Stp.go ?_))
    constructor
    go_wp2_with fail
    go_ret
    exact ⟨ret_bool (by simp [Le.may]; omega), (unhide M).kept⟩
  have d1 : decide (0 ≤ l.ep) = true := by simpa using h1
  have d2 : decide (l.ep ≤ 2147483647) = true := by simpa using h2
  cases h3 : isN l.be with
  | false =>
    have P41 : ∀ W, Hid (Calls Try.prog 41 #[.int .i64 l.be] W fun e w' => e = .returned (.bool false) ∧ w' = W) := fun W => hide (by have := isNumber41 l.be W; rw [h3] at this; exact this)
    have h3b : ¬ (0 ≤ l.be ∧ l.be ≤ 4611686018427387904) := by simpa [isN] using h3
    clear h3
    go_enter Try.func24, Try.ntmps24
    have M : Hid (Mm [] w w []) := hide Mm.init
    go_wp2_with (
      first
      | (refine wpBoxV rfl (.tmp 0) rfl (l.C) rfl ?_
         intro W1 b1 e1 B1 K1
         replace M : Hid (Mm [] w W1 [(b1, 23, l.C)]) := hide ((unhide M).new e1 B1 K1)
         clear e1 B1 K1
         have c0 := fits_cell ((unhide M).at 0 _ rfl) 0 _ rfl
         have c1 := fits_cell ((unhide M).at 0 _ rfl) 1 _ rfl
         have c2 := fits_cell ((unhide M).at 0 _ rfl) 2 _ rfl
         refine Stp.go ?_))
    constructor
    go_wp2_with (
      first
      | (go_at_call 41
         refine (unhide (P41 _)).mono ?_
         rintro e w2 ⟨rfl, rfl⟩
         clear P41
         refine Stp.go ?_))
    constructor
    go_wp2_with fail
    go_ret
    exact ⟨ret_bool (by simp [Le.may]; omega), (unhide M).kept⟩
  | true =>
    have P41 : ∀ W, Hid (Calls Try.prog 41 #[.int .i64 l.be] W fun e w' => e = .returned (.bool true) ∧ w' = W) := fun W => hide (by have := isNumber41 l.be W; rw [h3] at this; exact this)
    have h3b : (0 ≤ l.be ∧ l.be ≤ 4611686018427387904) := by simpa [isN] using h3
    clear h3
    cases h4 : isN l.re with
    | false =>
      have Q41 : ∀ W, Hid (Calls Try.prog 41 #[.int .i64 l.re] W fun e w' => e = .returned (.bool false) ∧ w' = W) := fun W => hide (by have := isNumber41 l.re W; rw [h4] at this; exact this)
      have h4b : ¬ (0 ≤ l.re ∧ l.re ≤ 4611686018427387904) := by simpa [isN] using h4
      clear h4
      go_enter Try.func24, Try.ntmps24
      have M : Hid (Mm [] w w []) := hide Mm.init
      go_wp2_with (
        first
        | (refine wpBoxV rfl (.tmp 0) rfl (l.C) rfl ?_
           intro W1 b1 e1 B1 K1
           replace M : Hid (Mm [] w W1 [(b1, 23, l.C)]) := hide ((unhide M).new e1 B1 K1)
           clear e1 B1 K1
           have c0 := fits_cell ((unhide M).at 0 _ rfl) 0 _ rfl
           have c1 := fits_cell ((unhide M).at 0 _ rfl) 1 _ rfl
           have c2 := fits_cell ((unhide M).at 0 _ rfl) 2 _ rfl
           refine Stp.go ?_))
      constructor
      go_wp2_with (
        first
        | (go_at_call 41
           refine (unhide (P41 _)).mono ?_
           rintro e w2 ⟨rfl, rfl⟩
           clear P41
           refine Stp.go ?_))
      constructor
      go_wp2_with (
        first
        | (go_at_call 41
           refine (unhide (Q41 _)).mono ?_
           rintro e w2 ⟨rfl, rfl⟩
           clear Q41
           refine Stp.go ?_))
      constructor
      go_wp2_with fail
      go_ret
      exact ⟨ret_bool (by simp [Le.may]; omega), (unhide M).kept⟩
    | true =>
      have Q41 : ∀ W, Hid (Calls Try.prog 41 #[.int .i64 l.re] W fun e w' => e = .returned (.bool true) ∧ w' = W) := fun W => hide (by have := isNumber41 l.re W; rw [h4] at this; exact this)
      have h4b : (0 ≤ l.re ∧ l.re ≤ 4611686018427387904) := by simpa [isN] using h4
      clear h4
      go_enter Try.func24, Try.ntmps24
      have M : Hid (Mm [] w w []) := hide Mm.init
      go_wp2_with (
        first
        | (refine wpBoxV rfl (.tmp 0) rfl (l.C) rfl ?_
           intro W1 b1 e1 B1 K1
           replace M : Hid (Mm [] w W1 [(b1, 23, l.C)]) := hide ((unhide M).new e1 B1 K1)
           clear e1 B1 K1
           have c0 := fits_cell ((unhide M).at 0 _ rfl) 0 _ rfl
           have c1 := fits_cell ((unhide M).at 0 _ rfl) 1 _ rfl
           have c2 := fits_cell ((unhide M).at 0 _ rfl) 2 _ rfl
           refine Stp.go ?_))
      constructor
      go_wp2_with (
        first
        | (go_at_call 41
           refine (unhide (P41 _)).mono ?_
           rintro e w2 ⟨rfl, rfl⟩
           clear P41
           refine Stp.go ?_))
      constructor
      go_wp2_with (
        first
        | (go_at_call 41
           refine (unhide (Q41 _)).mono ?_
           rintro e w2 ⟨rfl, rfl⟩
           clear Q41
           refine Stp.go ?_))
      constructor
      go_wp2_with fail
      go_ret
      exact ⟨ret_bool (by simp [Le.may]; omega), (unhide M).kept⟩
theorem rmay12 (l : Le) (w : World) : Calls Try.prog 12 #[aggV l.C] w fun e w' => e = .returned (.bool l.may) ∧ Kept [] w w' := by
  by_cases h0 : 0 ≤ l.ep
  rotate_left
  · have d0 : decide (0 ≤ l.ep) = false := by simpa using h0
    go_enter Try.func12, Try.ntmps12
    have M : Hid (Mm [] w w []) := hide Mm.init
    go_wp2_with (
      first
      | (refine wpBoxV rfl (.tmp 0) rfl (l.C) rfl ?_
         intro W1 b1 e1 B1 K1
         replace M : Hid (Mm [] w W1 [(b1, 23, l.C)]) := hide ((unhide M).new e1 B1 K1)
         clear e1 B1 K1
         have c0 := fits_cell ((unhide M).at 0 _ rfl) 0 _ rfl
         have c1 := fits_cell ((unhide M).at 0 _ rfl) 1 _ rfl
         have c2 := fits_cell ((unhide M).at 0 _ rfl) 2 _ rfl
         refine Stp.go ?_))
    constructor
    go_wp2_with fail
    go_ret
    exact ⟨ret_bool (by simp [Le.may]; omega), (unhide M).kept⟩
  have d0 : decide (0 ≤ l.ep) = true := by simpa using h0
  by_cases h1 : l.ep ≤ 2147483647
  rotate_left
  · have d1 : decide (l.ep ≤ 2147483647) = false := by simpa using h1
    go_enter Try.func12, Try.ntmps12
    have M : Hid (Mm [] w w []) := hide Mm.init
    go_wp2_with (
      first
      | (refine wpBoxV rfl (.tmp 0) rfl (l.C) rfl ?_
         intro W1 b1 e1 B1 K1
         replace M : Hid (Mm [] w W1 [(b1, 23, l.C)]) := hide ((unhide M).new e1 B1 K1)
         clear e1 B1 K1
         have c0 := fits_cell ((unhide M).at 0 _ rfl) 0 _ rfl
         have c1 := fits_cell ((unhide M).at 0 _ rfl) 1 _ rfl
         have c2 := fits_cell ((unhide M).at 0 _ rfl) 2 _ rfl
         refine Stp.go ?_))
    constructor
    go_wp2_with fail
    go_ret
    exact ⟨ret_bool (by simp [Le.may]; omega), (unhide M).kept⟩
  have d1 : decide (l.ep ≤ 2147483647) = true := by simpa using h1
  by_cases h2 : 0 ≤ l.be
  rotate_left
  · have d2 : decide (0 ≤ l.be) = false := by simpa using h2
    go_enter Try.func12, Try.ntmps12
    have M : Hid (Mm [] w w []) := hide Mm.init
    go_wp2_with (
      first
      | (refine wpBoxV rfl (.tmp 0) rfl (l.C) rfl ?_
         intro W1 b1 e1 B1 K1
         replace M : Hid (Mm [] w W1 [(b1, 23, l.C)]) := hide ((unhide M).new e1 B1 K1)
         clear e1 B1 K1
         have c0 := fits_cell ((unhide M).at 0 _ rfl) 0 _ rfl
         have c1 := fits_cell ((unhide M).at 0 _ rfl) 1 _ rfl
         have c2 := fits_cell ((unhide M).at 0 _ rfl) 2 _ rfl
         refine Stp.go ?_))
    constructor
    go_wp2_with fail
    go_ret
    exact ⟨ret_bool (by simp [Le.may]; omega), (unhide M).kept⟩
  have d2 : decide (0 ≤ l.be) = true := by simpa using h2
  by_cases h3 : l.be ≤ 4611686018427387904
  rotate_left
  · have d3 : decide (l.be ≤ 4611686018427387904) = false := by simpa using h3
    go_enter Try.func12, Try.ntmps12
    have M : Hid (Mm [] w w []) := hide Mm.init
    go_wp2_with (
      first
      | (refine wpBoxV rfl (.tmp 0) rfl (l.C) rfl ?_
         intro W1 b1 e1 B1 K1
         replace M : Hid (Mm [] w W1 [(b1, 23, l.C)]) := hide ((unhide M).new e1 B1 K1)
         clear e1 B1 K1
         have c0 := fits_cell ((unhide M).at 0 _ rfl) 0 _ rfl
         have c1 := fits_cell ((unhide M).at 0 _ rfl) 1 _ rfl
         have c2 := fits_cell ((unhide M).at 0 _ rfl) 2 _ rfl
         refine Stp.go ?_))
    constructor
    go_wp2_with fail
    go_ret
    exact ⟨ret_bool (by simp [Le.may]; omega), (unhide M).kept⟩
  have d3 : decide (l.be ≤ 4611686018427387904) = true := by simpa using h3
  by_cases h4 : 0 ≤ l.re
  rotate_left
  · have d4 : decide (0 ≤ l.re) = false := by simpa using h4
    go_enter Try.func12, Try.ntmps12
    have M : Hid (Mm [] w w []) := hide Mm.init
    go_wp2_with (
      first
      | (refine wpBoxV rfl (.tmp 0) rfl (l.C) rfl ?_
         intro W1 b1 e1 B1 K1
         replace M : Hid (Mm [] w W1 [(b1, 23, l.C)]) := hide ((unhide M).new e1 B1 K1)
         clear e1 B1 K1
         have c0 := fits_cell ((unhide M).at 0 _ rfl) 0 _ rfl
         have c1 := fits_cell ((unhide M).at 0 _ rfl) 1 _ rfl
         have c2 := fits_cell ((unhide M).at 0 _ rfl) 2 _ rfl
         refine Stp.go ?_))
    constructor
    go_wp2_with fail
    go_ret
    exact ⟨ret_bool (by simp [Le.may]; omega), (unhide M).kept⟩
  have d4 : decide (0 ≤ l.re) = true := by simpa using h4
  go_enter Try.func12, Try.ntmps12
  have M : Hid (Mm [] w w []) := hide Mm.init
  go_wp2_with (
    first
    | (refine wpBoxV rfl (.tmp 0) rfl (l.C) rfl ?_
       intro W1 b1 e1 B1 K1
       replace M : Hid (Mm [] w W1 [(b1, 23, l.C)]) := hide ((unhide M).new e1 B1 K1)
       clear e1 B1 K1
       have c0 := fits_cell ((unhide M).at 0 _ rfl) 0 _ rfl
       have c1 := fits_cell ((unhide M).at 0 _ rfl) 1 _ rfl
       have c2 := fits_cell ((unhide M).at 0 _ rfl) 2 _ rfl
       refine Stp.go ?_))
  constructor
  go_wp2_with fail
  go_ret
  exact ⟨ret_bool (by simp [Le.may]; omega), (unhide M).kept⟩

end Go.Proofs.Ythidiolgngkffaa
