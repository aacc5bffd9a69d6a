/-
  A pool in memory; its small functions.
-/
import Derived.Test.YtgnafbohikbpfaaQc
import Derived.BigQuiet
namespace Go.Proofs.Ytgnafbohikbpfaa
set_option maxRecDepth 100000
set_option linter.unusedSimpArgs false
open Go.RowKit


/-- A busy place. -/
def Po.busy (P : Po) (i : Nat) : Prop := i < P.m ∧ ¬ (P.S i).f.md = 0
/-- A pool that may be. -/
structure Po.Ok (P : Po) : Prop where
  m : 1 ≤ P.m ∧ P.m ≤ 16
  h : P.h < P.m
  z : ∀ i, P.m ≤ i → P.S i = pl0
  pg : ∀ i, P.busy i → 0 ≤ (P.S i).f.pg ∧ (P.S i).f.pg < 16
  un : ∀ i j, P.busy i → P.busy j → (P.S i).f.pg = (P.S j).f.pg → i = j
  fr : ∀ i, (P.S i).f.md = 0 → P.S i = pl0
  md : ∀ i, P.busy i → (P.S i).f.md = 1 ∨ (P.S i).f.md = 2
/-- How many places are busy. -/
def cntB (S : Nat → Pl) : Nat → Nat
  | 0 => 0
  | n + 1 => cntB S n + (if (S n).f.md = 0 then 0 else 1)
theorem cntB_le (S : Nat → Pl) : ∀ n, cntB S n ≤ n
  | 0 => Nat.le_refl _
  | n + 1 => by have := cntB_le S n; unfold cntB; split <;> omega
theorem cntB_same {S R : Nat → Pl} : ∀ n, (∀ i, i < n → (S i).f.md = (R i).f.md) → cntB S n = cntB R n
  | 0, _ => rfl
  | n + 1, h => by rw [cntB, cntB, cntB_same n (fun i hi => h i (by omega)), h n (by omega)]
theorem cntB_upd (S : Nat → Pl) (i : Nat) (x : Pl) : ∀ n, i < n → cntB (upd S i x) n + (if (S i).f.md = 0 then 0 else 1) = cntB S n + (if x.f.md = 0 then 0 else 1)
  | 0, h => by omega
  | n + 1, h => by
    by_cases e : i = n
    · subst e
      have h1 : cntB (upd S i x) i = cntB S i := cntB_same i (fun j hj => by rw [upd_ne S x (by omega)])
      rw [cntB, cntB, upd_same, h1]
      omega
    · have h1 := cntB_upd S i x n (by omega)
      have h2 : upd S i x n = S n := upd_ne S x (by omega)
      rw [cntB, cntB, h2]
      omega
/-- Where the pages are. -/
structure Wh (P : Po) (L : List En) : Prop where
  at_ : ∀ l ∈ L, ∃ i, P.busy i ∧ l.v = (i : Int) ∧ (P.S i).f.pg = l.k
  has : ∀ i, P.busy i → ∃ l ∈ L, l.k = (P.S i).f.pg ∧ l.v = (i : Int)
  nd : L.Pairwise (fun a b => ¬ a.k = b.k)
  ln : L.length = cntB P.S P.m
/-- The first place of a page. -/
def findTo (P : Po) (pg : Int) : Nat → Option Nat
  | 0 => none
  | n + 1 => match findTo P pg n with
    | some i => some i
    | none => if ¬ (P.S n).f.md = 0 ∧ (P.S n).f.pg = pg then some n else none
def Po.find (P : Po) (pg : Int) : Option Nat := findTo P pg P.m
theorem findTo_some {P : Po} {pg : Int} : ∀ {n i : Nat}, findTo P pg n = some i → i < n ∧ ¬ (P.S i).f.md = 0 ∧ (P.S i).f.pg = pg := by
  intro n
  induction n with
  | zero => intro i h; cases h
  | succ n ih =>
    intro i h
    unfold findTo at h
    split at h
    · cases h
      rename_i h9
      have := ih h9
      exact ⟨by omega, this.2⟩
    · split at h
      · cases h
        rename_i h9
        exact ⟨by omega, h9⟩
      · cases h
theorem findTo_none {P : Po} {pg : Int} : ∀ {n : Nat}, findTo P pg n = none → ∀ i, i < n → ¬ (¬ (P.S i).f.md = 0 ∧ (P.S i).f.pg = pg) := by
  intro n
  induction n with
  | zero => intro h i hi; omega
  | succ n ih =>
    intro h i hi
    unfold findTo at h
    split at h
    · cases h
    · rename_i h9
      split at h
      · cases h
      · rename_i h8
        by_cases e : i = n
        · subst e; exact h8
        · exact ih h9 i (by omega)
theorem Po.find_some {P : Po} {pg : Int} {i : Nat} (h : P.find pg = some i) : P.busy i ∧ (P.S i).f.pg = pg := by
  have := findTo_some h
  exact ⟨⟨this.1, this.2.1⟩, this.2.2⟩
theorem Po.find_none {P : Po} {pg : Int} (h : P.find pg = none) {i : Nat} (hb : P.busy i) : ¬ (P.S i).f.pg = pg := fun e => findTo_none h i hb.1 ⟨hb.2, e⟩
/-- What the map tells. -/
theorem Wh.look {P : Po} {L : List En} (h : Wh P L) (hk : P.Ok) (pg : Int) : (match P.find pg with
    | none => placeOf pg L 0 = none
    | some i => ∃ j l, placeOf pg L 0 = some (j, l) ∧ l.v = (i : Int) ∧ L[j]? = some l) := by
  cases hf : P.find pg with
  | none =>
    refine placeOf_no fun l hl e => ?_
    obtain ⟨i, h1, _, h3⟩ := h.at_ l hl
    exact Po.find_none hf h1 (h3.trans e)
  | some i =>
    obtain ⟨h1, h2⟩ := Po.find_some hf
    obtain ⟨l, hl, h3, h4⟩ := h.has i h1
    cases hp : placeOf pg L 0 with
    | none => exact absurd (h3.trans h2) (placeOf_none hp l hl)
    | some x =>
      obtain ⟨j, l'⟩ := x
      obtain ⟨_, h6, h7⟩ := placeOf_some hp
      rw [Nat.sub_zero] at h6
      obtain ⟨i', h8, h9, h10⟩ := h.at_ l' (List.mem_of_getElem? h6)
      have : i' = i := hk.un i' i h8 h1 (by rw [h10, h7, h2])
      subst this
      exact ⟨j, l', rfl, h9, h6⟩
/-- A pool stands in memory. -/
structure Pg (W : World) (b mb : Nat) (P : Po) (L : List En) : Prop where
  blk : Blk W b 70 (P.C (.map (some mb)))
  map : MapAt W mb L
  ok : P.Ok
  wh : Wh P L
variable {W W' : World} {b mb : Nat} {P : Po} {L : List En}
theorem Pg.step (h : Pg W b mb P L) {X : List Nat} (hk : Kept X W W') (h1 : b ∉ X) (h2 : mb ∉ X) : Pg W' b mb P L := ⟨h.blk.kept hk h1, h.map.kept hk h2, h.ok, h.wh⟩
theorem Pg.cm (h : Pg W b mb P L) : W.cell? ⟨b, 1664, none⟩ = some (.int .i64 (P.m : Int)) := fits_cell h.blk _ _ (P.at_m _)
theorem Pg.ch (h : Pg W b mb P L) : W.cell? ⟨b, 1665, none⟩ = some (.int .i64 (P.h : Int)) := fits_cell h.blk _ _ (P.at_h _)
theorem Pg.cw (h : Pg W b mb P L) : W.cell? ⟨b, 1666, none⟩ = some (.map (some mb)) := fits_cell h.blk _ _ (P.at_w _)
theorem Pg.cmd (h : Pg W b mb P L) {i : Nat} (hi : i < 16) : W.cell? ⟨b, i * 104 + 1, none⟩ = some (.int .i64 (P.S i).f.md) := fits_cell h.blk _ _ (by rw [P.at _ i 1 hi (by omega), (P.S i).at_f 1 (by omega)]; rfl)
theorem Pg.cpg (h : Pg W b mb P L) {i : Nat} (hi : i < 16) : W.cell? ⟨b, i * 104, none⟩ = some (.int .i64 (P.S i).f.pg) := fits_cell h.blk _ _ (by rw [show i * 104 = i * 104 + 0 from rfl, P.at _ i 0 hi (by omega), (P.S i).at_f 0 (by omega)]; rfl)
theorem Pg.cpn (h : Pg W b mb P L) {i : Nat} (hi : i < 16) : W.cell? ⟨b, i * 104 + 102, none⟩ = some (.int .i64 ((P.S i).pn : Int)) := fits_cell h.blk _ _ (by rw [P.at _ i 102 hi (by omega)]; exact (P.S i).at_pn)
theorem Pg.cus (h : Pg W b mb P L) {i : Nat} (hi : i < 16) : W.cell? ⟨b, i * 104 + 103, none⟩ = some (.bool (P.S i).us) := fits_cell h.blk _ _ (by rw [P.at _ i 103 hi (by omega)]; exact (P.S i).at_us)
/-- No pool. -/
def Nil (W : World) (v : Value) : Prop := v = .pointer none ∨ ∃ b, v = P0 b ∧ Blk W b 70 (Po.C ⟨0, 0, z16⟩ (.map none))
set_option maxHeartbeats 1000000 in
theorem none41 (w : World) (h : Pg w b mb P L) : Calls Try.prog 41 #[P0 b] w fun e w' => e = .returned (.bool false) ∧ w' = w := by
  have c0 := h.cm
  have hm : ((P.m : Int) == 0) = false := by have := h.ok.m; simp; omega
  have hm2 : decide ((P.m : Int) = 0) = false := by have := h.ok.m; simp; omega
  clear h
  go_enter Try.func41, Try.ntmps41
  go_wp2_with fail
  go_ret
  exact ⟨rfl, rfl⟩
theorem none41_z (w : World) (v : Value) (h : Nil w v) : Calls Try.prog 41 #[v] w fun e w' => e = .returned (.bool true) ∧ w' = w := by
  rcases h with rfl | ⟨b, rfl, hB⟩
  · go_enter Try.func41, Try.ntmps41
    go_wp2_with fail
    go_ret
    exact ⟨rfl, rfl⟩
  · have c0 : w.cell? ⟨b, 1664, none⟩ = some (.int .i64 0) := fits_cell hB _ _ (Po.at_m _ _)
    clear hB
    go_enter Try.func41, Try.ntmps41
    go_wp2_with fail
    go_ret
    exact ⟨rfl, rfl⟩
theorem free43 (w : World) (h : Pg w b mb P L) (i : Nat) (hi : i < 16) : Calls Try.prog 43 #[.pointer (some ⟨b, i * 104, none⟩)] w fun e w' => e = .returned (.bool (decide ((P.S i).f.md = 0))) ∧ w' = w := by
  have c0 := h.cmd hi
  clear h
  cases hd : decide ((P.S i).f.md = 0) with
  | true =>
    have e := of_decide_eq_true hd
    rw [e] at c0
    clear hd e
    go_enter Try.func43, Try.ntmps43
    go_wp2_with fail
    go_ret
    exact ⟨rfl, rfl⟩
  | false =>
    have e : ((P.S i).f.md == 0) = false := by simpa using hd
    go_enter Try.func43, Try.ntmps43
    go_wp2_with fail
    go_ret
    exact ⟨rfl, rfl⟩

end Go.Proofs.Ytgnafbohikbpfaa
