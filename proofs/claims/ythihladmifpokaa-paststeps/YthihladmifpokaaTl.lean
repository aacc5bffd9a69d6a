/-
  stands: what stays; one range over All.
-/
import Derived.Test.YthihladmifpokaaTk
namespace Go.Proofs.Ythihladmifpokaa
set_option maxRecDepth 100000
set_option linter.unusedSimpArgs false
open Go.RowKit Go.Shelf
attribute [local go_sem] Oper.semAt_some


/-- What stays through stands; B bounds the blocks that it speaks of. -/
structure Sv (w W : World) (B b mb c r bq b9 b10 bt : Nat) (v : Value) (M L : List Mk) (leave turn : Int) (Ds : List Nat) : Prop where
  tw : Tw W b mb r v M L
  hc : Blk W c 25 [P0 b]
  hq : Blk W bq 27 [P0 r]
  l9 : Blk W b9 3 [.int .i64 leave]
  o10 : Blk W b10 4 [.bool false]
  ht : Blk W bt 3 [.int .i64 turn]
  kp : Kept [] w W
  lt : b < B ∧ mb < B ∧ c < B ∧ r < B ∧ bq < B ∧ b9 < B ∧ b10 < B ∧ bt < B
  ge : w.heap.size ≤ B ∧ w.heap.size ≤ b10
  own : ∀ k, v.ownBlock = some k → k < B
  d : ∀ D ∈ Ds, D < B ∧ w.heap.size ≤ D ∧ W.heap[D]? = some (.deferred (some []))
variable {w W W' : World} {B b mb c r bq b9 b10 bt bn : Nat} {v : Value} {M L : List Mk} {leave turn : Int} {Ds Z : List Nat}
theorem Sv.keep (h : Sv w W B b mb c r bq b9 b10 bt v M L leave turn Ds) (hk : Kept Z W W') (hz : ∀ i ∈ Z, B ≤ i) : Sv w W' B b mb c r bq b9 b10 bt v M L leave turn Ds := by
  have hl := h.lt
  have ne : ∀ j, j < B → j ∉ Z := fun j hj e => by have := hz j e; omega
  exact ⟨h.tw.step hk (ne _ hl.1) (ne _ hl.2.1) (ne _ hl.2.2.2.1) (fun k e => ne _ (h.own k e)), h.hc.kept hk (ne _ hl.2.2.1), h.hq.kept hk (ne _ hl.2.2.2.2.1), h.l9.kept hk (ne _ hl.2.2.2.2.2.1), h.o10.kept hk (ne _ hl.2.2.2.2.2.2.1),
    h.ht.kept hk (ne _ hl.2.2.2.2.2.2.2), h.kp.fresh hk (fun i hi hlt => by have := hz i hi; have := h.ge.1; omega), hl, h.ge, h.own, fun D hD => ⟨(h.d D hD).1, (h.d D hD).2.1, hk.heap (h.d D hD).2.2 (ne _ (h.d D hD).1)⟩⟩
theorem Sv.step0 (h : Sv w W B b mb c r bq b9 b10 bt v M L leave turn Ds) (hk : Kept [] W W') : Sv w W' B b mb c r bq b9 b10 bt v M L leave turn Ds := h.keep hk (by simp)
theorem Sv.up {B' : Nat} (h : Sv w W B b mb c r bq b9 b10 bt v M L leave turn Ds) (hB : B ≤ B') : Sv w W B' b mb c r bq b9 b10 bt v M L leave turn Ds := by
  have hl := h.lt
  exact ⟨h.tw, h.hc, h.hq, h.l9, h.o10, h.ht, h.kp, by omega, by have := h.ge; omega, fun k e => by have := h.own k e; omega, fun D hD => ⟨by have := (h.d D hD).1; omega, (h.d D hD).2⟩⟩
theorem Sv.mark {D : Nat} (h : Sv w W B b mb c r bq b9 b10 bt v M L leave turn Ds) (hD : B ≤ D) (hK : W.heap[D]? = some (.deferred (some []))) : Sv w W (D + 1) b mb c r bq b9 b10 bt v M L leave turn (D :: Ds) := by
  have h9 := h.up (B' := D + 1) (by omega)
  refine ⟨h9.tw, h9.hc, h9.hq, h9.l9, h9.o10, h9.ht, h9.kp, h9.lt, h9.ge, h9.own, fun D' h' => ?_⟩
  rcases List.mem_cons.1 h' with e | h'
  · rw [e]; exact ⟨by omega, by have := h.ge; omega, hK⟩
  · exact h9.d D' h'
/-- The turn's variable is another one, or its value. -/
theorem Sv.next {B' bt' : Nat} {turn' : Int} (h : Sv w W B b mb c r bq b9 b10 bt v M L leave turn Ds) (hB' : B ≤ B') (hb : bt' < B') (hB : Blk W bt' 3 [.int .i64 turn']) : Sv w W B' b mb c r bq b9 b10 bt' v M L leave turn' Ds := by
  have h9 := h.up hB'
  have hl := h9.lt
  exact ⟨h9.tw, h9.hc, h9.hq, h9.l9, h9.o10, hB, h9.kp, by omega, h9.ge, h9.own, h9.d⟩
/-- The frame at a round's beginning. -/
def ay (t : Array Value) (x : List Value) (bx : Nat) : Act := { tmps := (t.setIfInBounds 107 (aggV x)).setIfInBounds 21 (P0 bx), defers := [] }
/-- One range over All: gone through, or left where it must be. -/
theorem range_turn (id : Nat) (bn : Nat) {gv : Operand} {ps : Array Tmp} {assign body : Code} {Q : Exit → Act → World → Prop} {a : Act} {W0 : World}
    (hg : a.eval gv = fnV 45 #[P0 c]) (hps : ps = #[107]) (hS : Sv w W0 B b mb c r bq b9 b10 bt v M L leave turn Ds) (hn0 : Blk W0 bn 3 [.int .i64 0]) (hb : B ≤ bn)
    (hassign : ∀ (l : Nat) (x : Mk) (W : World) (K : Act → World → Prop), (∀ a' W' bx, Kept [] W W' → Blk W' bx 54 x.C → W.heap.size ≤ bx → a' = ay a.tmps x.C bx → K a' W') →
      assign.wpIn (Fence.wide.inRound l) 1 Try.prog (Exit.then K (fun _ _ _ => False)) { tmps := a.tmps.setIfInBounds 107 (aggV x.C), defers := [] } W)
    (hbody : ∀ (l k : Nat) (f : Mk) (bx : Nat) (W : World), L[k]? = some f → Sv w W B b mb c r bq b9 b10 bt v M L leave turn Ds → Blk W bn 3 [.int .i64 (k : Int)] → (turn = 0 → ¬ (1 ≤ k ∧ (k : Int) = leave)) → Blk W bx 54 f.C →
      body.wpIn (Fence.wide.inRound l) 1 Try.prog (fun e _ W3 => Kept [bn] W W3 ∧ Blk W3 bn 3 [.int .i64 ((k : Int) + 1)] ∧ ((e = .normal ∧ (turn = 0 → ¬ (k : Int) + 1 = leave)) ∨ (e = .exit id ∧ turn = 0 ∧ (k : Int) + 1 = leave))) (ay a.tmps f.C bx) W)
    (hdone : ∀ (n : Nat) (W : World), Sv w W B b mb c r bq b9 b10 bt v M L leave turn Ds → Blk W bn 3 [.int .i64 (n : Int)] → n ≤ L.length → (n = L.length ∨ (turn = 0 ∧ (n : Int) = leave)) → W.heap[W0.heap.size]? = some (.deferred (some [])) → W0.heap.size + 2 ≤ W.heap.size → Q .normal { a with defers := { target := .collected W0.heap.size, args := #[] } :: a.defers } W)
    (hE : ∀ a W, Q .normal a W → (Code.exit id).wpIn Fence.wide 3 Try.prog Q a W) : (Code.rangeFunc gv ps assign body).wpIn Fence.wide 3 Try.prog Q a W0 := by
  have hbl := hn0.lt
  have hBW : B ≤ W0.heap.size := by omega
  subst hps
  refine wp_rangeX 2 45 c (allC L) [bn] hg cg45 rfl (by simpa using hbl)
    (fun V hk hs => all45_in (W0.heap.size + 1) ((W0.heap.size + 1) :: [bn]) (by intro k hk2; simp at hk2; omega) (hS.step0 hk).hc (hS.step0 hk).tw.pg hS.tw.perm hS.tw.srt)
    (fun k W => Sv w W B b mb c r bq b9 b10 bt v M L leave turn Ds ∧ Blk W bn 3 [.int .i64 (k : Int)] ∧ (turn = 0 → ¬ (1 ≤ k ∧ (k : Int) = leave)))
    (fun cd k W => cd = .exit id ∧ turn = 0 ∧ (k : Int) = leave ∧ Sv w W B b mb c r bq b9 b10 bt v M L leave turn Ds ∧ Blk W bn 3 [.int .i64 (k : Int)]) ?_ ?_ ⟨hS, hn0, fun _ h => by omega⟩
    (fun k a' W => ∃ f bx, L[k]? = some f ∧ Blk W bx 54 f.C ∧ bx ≠ W0.heap.size + 1 ∧ a' = ay a.tmps f.C bx) ?_ ?_ ?_ ?_ ?_
  · rintro k A B' Z ⟨h1, h2, h3⟩ hk hz
    exact ⟨h1.keep hk (fun i hi => by have := hz i hi; omega), h2.kept hk (fun e => by have := hz _ e; omega), h3⟩
  · rintro cd k A B' Z ⟨h1, h2, h3, h4, h5⟩ hk hz
    exact ⟨h1, h2, h3, h4.keep hk (fun i hi => by have := hz i hi; omega), h5.kept hk (fun e => by have := hz _ e; omega)⟩
  · rintro k a' A B' ⟨f, bx, h1, h2, h3, h4⟩ hk
    exact ⟨f, bx, h1, h2.kept hk (by simpa using h3), h3, h4⟩
  · intro l k x W K hx hI hsz hK
    obtain ⟨f, hf, rfl⟩ := allC_of hx
    simp only [List.zip_toArray, List.zip_cons_cons, List.zip_nil_right, List.foldl_toArray, List.foldl_cons, List.foldl_nil]
    exact hassign l f W K (fun a' W' bx hk hbx hge e => hK a' W' hk ⟨f, bx, hf, hbx, by omega, e⟩)
  · rintro l k x a' W hx ⟨h1, h2, h3⟩ ⟨f, bx, hf, hbx, _, rfl⟩ hsz
    refine wpIn_mono (hbody l k f bx W hf h1 h2 h3 hbx) ?_
    rintro e a3 W3 ⟨hk, hn, h9⟩
    refine ⟨hk, ?_⟩
    have hS3 := h1.keep hk (fun i hi => by simp at hi; omega)
    rcases h9 with ⟨rfl, h9⟩ | ⟨rfl, h9, h8⟩
    · exact ⟨hS3, hn, fun e h => h9 e (by have := h.2; omega)⟩
    · exact ⟨rfl, h9, by omega, hS3, hn⟩
  · intro W hk hsz hI hD
    rw [allC_len] at hI
    exact hdone _ W hI.1 hI.2.1 (Nat.le_refl _) (.inl rfl) hD hsz
  · rintro cd k W hk hkX hsz ⟨rfl, h2, h3, h4, h5⟩ hD
    rw [allC_len] at hk
    exact hE _ _ (hdone (k + 1) W h4 h5 hk (.inr ⟨h2, h3⟩) hD hsz)
section
variable {ops : Array Oper} {rest : List Oper} {op o : Oper} {a : Act} {w : World} {K : Act → World → Prop} {Q : Exit → Act → World → Prop}
theorem o_load27 (x : Operand) (ho : o.op = .load 27 x) (p : Addr) (v : Value) (hx : a.eval x = .pointer (some p)) (hc : w.cell? p = some v) (h : K (a.put o.dst v) w) : o.wp Try.prog a w K Q := by
  unfold Oper.wp execOp
  simp only [ho, hx]
  simp [go_sem, hc]
  exact h
theorem o_len23 (x : Operand) (ho : o.op = .call { callee := .builtin .len, args := #[x], argTypes := #[23] }) (ao : Option Addr) (m c : Nat) (hx : a.eval x = .slice ao m c) (h : K (a.put o.dst (.int .i64 m)) w) : o.wp Try.prog a w K Q := by
  have hr : (Builtin.len_ #[23] o.type #[.slice ao m c]).run Try.prog w = .ok (.int .i64 m) w := by
    unfold Builtin.len_
    simp [Sem.run_bind, run_underlying Try.underlying23, goInt]
  unfold Oper.wp execOp
  simp only [ho, resolve, invoke, builtin, Sem.run_bind, Sem.run_pure, Result.andThen_ok, List.map_toArray, List.map_cons, List.map_nil, hx, hr]
  exact h
theorem o_idx23P (x y : Operand) (ho : o.op = .indexAddr 23 x y) (g off m c k : Nat) (hk : k < m) (hx : a.eval x = .slice (some ⟨g, off, none⟩) m c) (hy : a.eval y = .int .i64 k) (h : K (a.put o.dst (.pointer (some ⟨g, off + k, none⟩))) w) : o.wp Try.prog a w K Q := by
  have hkI : (k : Int) < m := by omega
  unfold Oper.wp execOp
  simp only [ho, hx, hy]
  simp [go_sem, hkI]
  exact h
theorem o_head23 (x y : Operand) (ho : o.op = .slice 23 x none (some y) none) (ad : Addr) (n c k : Nat) (hn : n ≤ c) (hk : k ≤ n) (hx : a.eval x = .slice (some ad) n c) (hy : a.eval y = .int .i64 k) (h : K (a.put o.dst (.slice (some ad) k c)) w) : o.wp Try.prog a w K Q := by
  unfold Oper.wp execOp
  simp only [ho, hx, hy, Option.map_none, Option.map_some]
  have hkc : k ≤ c := by omega
  obtain ⟨g, off, sp⟩ := ad
  simp [go_sem, hkc]
  exact h
theorem o_neqBB (x y : Operand) (ho : o.op = .binOp .neq 4 x y 4) (m : Bool) (hx : a.eval x = .bool m) (hy : a.eval y = .bool m) (h : K (a.put o.dst (.bool false)) w) : o.wp Try.prog a w K Q := by
  unfold Oper.wp execOp
  simp only [ho, hx, hy]
  simp [go_sem]
  exact h
theorem bs23o (w : World) (x : Int) : (Instr.buildSlice 23 1 #[(0, .int .i64 x)]).run Try.prog w = .ok (.slice (some ⟨w.heap.size, 0, none⟩) 1 1) (w.alloc (.cells #[.int .i64 x] 2)) := by kernel_rfl
theorem wpBs23o (hgd : op.guard = none) (x : Operand) (ho : op.op = .buildSlice 23 1 #[(0, x)]) (m : Int) (hx : a.eval x = .int .i64 m) (h : ∀ W g, g = w.heap.size → Blk W g 2 (inC [m]) → Kept [] w W → wpList Try.prog ops Q rest (a.put op.dst (.slice (some ⟨g, 0, none⟩) 1 1)) W) : wpList Try.prog ops Q (op :: rest) a w :=
  wpList_plain hgd fun _ hK => by
    unfold Oper.wp execOp
    simp only [ho, List.map_toArray, List.map_cons, List.map_nil, hx, Sem.run_bind, bs23o, Result.andThen_ok]
    exact hK _ _ (h _ _ rfl (Blk.new _ _ _) ((Kept.refl _ _).alloc _))
/-- Numbers that came in, copied into a row of one's own. -/
theorem wpAppA (hgd : op.guard = none) (x : Operand) (ho : op.op = .call { callee := .builtin .append, args := #[.const (.slice none 0 0), x], argTypes := #[23, 23] }) (ao : Option Addr) (c : Nat) (F : List Int) (hx : a.eval x = .slice ao F.length c) (hF : RowS intC 1 w ao F) (hno : ao = none → F = [] ∧ c = 0) (hn : F.length ≤ 40)
    (h : ∀ v W, Is W v F → Kept [] w W → (∀ k, v.ownBlock = some k → w.heap.size ≤ k) → (∀ k ∈ spare v, w.heap.size ≤ k) → wpList Try.prog ops Q rest (a.put op.dst v) W) : wpList Try.prog ops Q (op :: rest) a w :=
  wpList_plain hgd fun _ hK => by
    have hr : ∃ v W, (Builtin.append_ #[23, 23] op.type #[.slice none 0 0, .slice ao F.length c]).run Try.prog w = .ok v W ∧ Is W v F ∧ Kept [] w W ∧ (∀ k, v.ownBlock = some k → w.heap.size ≤ k) ∧ (∀ k ∈ spare v, w.heap.size ≤ k) := by
      obtain ⟨zv, hI, hzc⟩ := el23.info
      obtain ⟨i, hi, hz0, hz1, hz2⟩ := info_parts hI
      cases ao with
      | none =>
        obtain ⟨rfl, rfl⟩ := hno rfl
        exact ⟨_, w, run_appNone el23 w op.type (.slice none 0 0) 0 [] (Rw.nil _), Rw.nil _, Kept.refl _ _, (fun k hk => by cases hk), fun k hk => by cases hk⟩
      | some ad =>
        have hnews : ∀ j u, (inC F)[j]? = some u → w.cell? (ad.add j) = some u := fun j u hj => by
          unfold inC at hj
          rw [List.getElem?_map] at hj
          cases hq : F[j]? with
          | none => rw [hq] at hj; cases hj
          | some f =>
            rw [hq] at hj
            cases hj
            obtain ⟨b, o, e, h1⟩ := hF j f hq
            cases e
            have h2 := h1 0 _ rfl
            rw [Addr.add_lit]
            simpa using h2
        obtain ⟨v', w', hr, g2, g3, _, g5⟩ := run_append_own_at (P := Try.prog) w 0 23 op.type 2 i _ 1 8 el23.sl hi hz0 hz1 hz2 hzc el23.pos (.slice none 0 0) 0 [] (World.ownsRow_nil _ _ _ _) ad F.length c (inC F) (by simp [inC]) hnews (inC_one F) (by unfold maxLen; omega) (by omega) (Nat.zero_le _)
        have hob : ∀ k, v'.ownBlock = some k → w.heap.size ≤ k := fun k hk => by
          rcases g5 with e | e
          · rw [e] at hk; cases hk
          · rw [e] at hk; cases hk; exact Nat.le_refl _
        have h1 := own_R g2
        rw [Nat.zero_add, List.nil_append] at h1
        exact ⟨v', w', hr, h1, Kept.of_grown g3 (fun k e => by cases e), hob, fun k hk => hob k (spare_own hk)⟩
    obtain ⟨v, W, hr, h1, h2, h3, h4⟩ := hr
    have hc : a.eval (.const (.slice none 0 0)) = .slice none 0 0 := rfl
    unfold Oper.wp execOp
    simp only [ho, resolve, invoke, builtin, Sem.run_bind, Sem.run_pure, Result.andThen_ok, List.map_toArray, List.map_cons, List.map_nil, hx, hc, hr]
    exact hK _ _ (h v W h1 h2 h3 h4)
end
theorem fndB_len (f : Mk → Bool) (L : List Mk) : decide (((L.filter f).length : Int) > 0) = fndB f L := by
  rw [fndB_any, Bool.eq_iff_iff, decide_eq_true_iff, List.any_eq_true]
  constructor
  · intro h
    have h1 : 0 < (L.filter f).length := by omega
    rw [List.length_pos_iff] at h1
    obtain ⟨x, hx⟩ := List.exists_mem_of_ne_nil _ h1
    exact ⟨x, (List.mem_filter.1 hx).1, (List.mem_filter.1 hx).2⟩
  · rintro ⟨x, h1, h2⟩
    have := List.length_pos_of_mem (List.mem_filter.2 ⟨h1, h2⟩)
    omega
theorem inC_take (F G : List Int) : (inC (F ++ G)).take (F.length * 1) = inC F := by
  rw [inC_app, List.take_left' (by simp [inC])]
/-- The first part of a row of numbers. -/
theorem Is.head {W : World} {ad : Addr} {c n : Nat} {F G : List Int} (h : Is W (.slice (some ad) n c) (F ++ G)) (hn : n = (F ++ G).length) : Is W (.slice (some ad) F.length c) F := by
  subst hn
  have h1 := Rw.head h F.length (by simp)
  rw [inC_take] at h1
  exact h1

end Go.Proofs.Ythihladmifpokaa
