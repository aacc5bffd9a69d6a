/-
  Rows of numbers; Suspected.
-/
import Derived.Test.YthidiolgngkffaaLh
import Derived.Maps.AppendAt
namespace Go.Proofs.Ythidiolgngkffaa
set_option maxRecDepth 100000
open Go.RowKit

/-- The numbers as cells. -/
def iC (L : List Int) : List Value := L.map (Value.int .i64)
/-- A row of numbers of one's own, in a block made since. -/
def Ints (W : World) (base : Nat) (v : Value) (L : List Int) : Prop := W.ownsRow base 3 1 v L.length (iC L)
theorem Ints.nil (W : World) (base : Nat) : Ints W base (.slice none 0 0) [] := ⟨rfl, .inl ⟨rfl, rfl⟩⟩
theorem Ints.block {W : World} {base : Nat} {v : Value} {L : List Int} (h : Ints W base v L) : ∀ k, v.ownBlock = some k → base ≤ k ∧ ∃ cs, W.heap[k]? = some (.cells cs 3 (0, 0)) := by
  intro k hk
  rcases h.2 with ⟨rfl, _⟩ | ⟨g, cap, cur, rfl, h1, h2, _⟩
  · cases hk
  · cases hk; exact ⟨h1, cur, h2⟩
theorem Ints.kept {W W' : World} {base : Nat} {v : Value} {L : List Int} {X : List Nat} (h : Ints W base v L) (hk : Kept X W W') (hX : ∀ k, v.ownBlock = some k → k ∉ X) : Ints W' base v L := by
  refine ⟨h.1, ?_⟩
  rcases h.2 with h1 | ⟨g, cap, cur, rfl, h1, h2, h3⟩
  · exact .inl h1
  · exact .inr ⟨g, cap, cur, rfl, h1, hk.heap h2 (hX g rfl), h3⟩
theorem Ints.sl {W : World} {base : Nat} {v : Value} {L : List Int} (h : Ints W base v L) : ∃ ao c, v = .slice ao L.length c := by
  rcases h.2 with ⟨rfl, e⟩ | ⟨g, cap, cur, rfl, _⟩
  · rw [e]; exact ⟨none, 0, rfl⟩
  · exact ⟨_, cap, rfl⟩
theorem Ints.base {W : World} {base b2 : Nat} {v : Value} {L : List Int} (h : Ints W base v L) (hb : b2 ≤ base) : Ints W b2 v L := by
  refine ⟨h.1, ?_⟩
  rcases h.2 with h1 | ⟨g, cap, cur, rfl, h1, h2, h3⟩
  · exact .inl h1
  · exact .inr ⟨g, cap, cur, rfl, by omega, h2, h3⟩
/-- The number at a place. -/
theorem Ints.get {W : World} {base : Nat} {v : Value} {L : List Int} (h : Ints W base v L) {i : Nat} {x : Int} (hx : L[i]? = some x) : ∃ g c, v = .slice (some ⟨g, 0, none⟩) L.length c ∧ W.cell? ⟨g, i, none⟩ = some (.int .i64 x) := by
  obtain ⟨hi, _⟩ := List.getElem?_eq_some_iff.1 hx
  rcases h.2 with ⟨_, e⟩ | ⟨g, cap, cur, rfl, _, h2, _, _, h5, h6⟩
  · omega
  · refine ⟨g, cap, rfl, ?_⟩
    rw [cell_of_block h2, ← Array.getElem?_toList]
    have h7 : (iC L)[i]? = some (.int .i64 x) := by simp [iC, hx]
    rw [← h6, List.getElem?_take_of_lt (by omega)] at h7
    exact h7
theorem Try.sl70 : Try.prog.underlying 70 = some (.slice 3) := by kernel_rfl
theorem Try.info3 : (Try.prog.info? 3).map (fun i => (i.zero, i.size, i.bytes)) = some (some (.int .i64 0), 1, 8) := by kernel_rfl
theorem run_app70 (w : World) (ty : TypeId) (v : Value) (base : Nat) (L : List Int) (h : Ints w base v L) (hb : base ≤ w.heap.size) (g : Nat) (x : Int) (hB : Blk w g 3 [.int .i64 x]) (hn : L.length ≤ 1000) :
    ∃ v' w', (Builtin.append_ #[70, 70] ty #[v, .slice (some ⟨g, 0, none⟩) 1 1]).run Try.prog w = .ok v' w' ∧ Ints w' base v' (L ++ [x]) ∧ Kept v.ownBlock.toList w w' := by
  obtain ⟨i, hi, hz0, hz1, hz2⟩ := info_parts Try.info3
  obtain ⟨v', w', hr, g2, g3, _, _⟩ := run_append_own_at (P := Try.prog) w base 70 ty 3 i _ 1 8 Try.sl70 hi hz0 hz1 hz2 rfl (by decide) v L.length (iC L) h ⟨g, 0, none⟩ 1 1 [.int .i64 x] rfl (fun j u hj => by rw [Addr.add_lit, Nat.zero_add, hB.cell]; exact hj) (fun u hu => by simp at hu; subst hu; rfl) (by unfold maxLen; omega) (by omega) hb
  refine ⟨v', w', hr, ?_, Kept.of_grown g3 (fun k e _ => by rw [e]; simp)⟩
  have : iC (L ++ [x]) = iC L ++ [.int .i64 x] := by simp [iC]
  unfold Ints
  rw [this, List.length_append]
  exact g2
theorem bs70 (w : World) (x : Int) : (Instr.buildSlice 70 1 #[(0, .int .i64 x)]).run Try.prog w = .ok (.slice (some ⟨w.heap.size, 0, none⟩) 1 1) (w.alloc (.cells [Value.int .i64 x].toArray 3)) := by kernel_rfl
section
variable {ops : Array Oper} {rest : List Oper} {op : Oper} {a : Act} {w : World} {Q : Exit → Act → World → Prop}
theorem wpStoreB {T : Nat} (hs : (Try.prog.info? T).map (·.size) = some 1) (hgd : op.guard = none) (x y : Operand) (ho : op.op = .store T x y) (hd : op.dst = none) (b off : Nat) (v : Value) (h1 : One v) (hx : a.eval x = .pointer (some ⟨b, off, none⟩)) (hy : a.eval y = v) {TT : Nat} {us : List Value} (hB : Blk w b TT us) (hl : off < us.length)
    (h : ∀ W, Blk W b TT (us.set off v) → Kept [b] w W → wpList Try.prog ops Q rest a W) : wpList Try.prog ops Q (op :: rest) a w :=
  wpList_plain hgd fun K hK => by
    have hst := storeVar1 hs hB hl v h1.1 h1.2
    unfold Oper.wp execOp
    simp only [ho, hx, hy, Instr.storeAt, Instr.sureAddr, Sem.run_bind, Sem.run_pure, Result.andThen_ok, hst]
    refine hK _ _ ?_
    rw [hd]
    exact h _ (hB.set v) ((Kept.refl _ _).setCell (by simp) v)
end
theorem size70 : (Try.prog.info? 70).map (·.size) = some 1 := by kernel_rfl
theorem Below.ofKept {B : Nat} {X : List Nat} {w w' : World} (h : Kept X w w') (hX : ∀ i ∈ X, B ≤ i) (hB : B ≤ w.heap.size) : Below B w w' := ⟨h.os, h.tape, h.output, h.size, fun i hi => h.block i (by omega) (fun e => by have := hX i e; omega)⟩
theorem Blk.below {B : Nat} {w w' : World} {b T : Nat} {vs : List Value} (h : Blk w b T vs) (hk : Below B w w') (hb : b < B) : Blk w' b T vs := by
  unfold Blk at *
  rw [hk.block b hb]; exact h
theorem Below.toKept {w w' : World} (h : Below w.heap.size w w') : Kept [] w w' := ⟨h.os, h.tape, h.output, h.size, fun k hk _ => h.block k hk⟩
section
variable {ops : Array Oper} {rest : List Oper} {op : Oper} {a : Act} {w : World} {Q : Exit → Act → World → Prop}
/-- append(l, x), written out. -/
theorem wpApp70 {o1 o2 : Oper} (hg1 : o1.guard = none) (hg2 : o2.guard = none) (x : Operand) (d : Nat) (ho1 : o1.op = .buildSlice 70 1 #[(0, x)]) (hd1 : o1.dst = some d) (s : Operand) (ho2 : o2.op = .call { callee := .builtin .append, args := #[s, .tmp d], argTypes := #[70, 70] }) (v : Value) (base : Nat) (L : List Int) (n : Int) (hx : a.eval x = .int .i64 n)
    (hs : ∀ u, (a.put (some d) u).eval s = v) (hp : ∀ u, (a.put (some d) u).eval (.tmp d) = u) (hI : Ints w base v L) (hb : base ≤ w.heap.size) (hn : L.length ≤ 1000)
    (h : ∀ v' W, Ints W base v' (L ++ [n]) → Kept v.ownBlock.toList w W → wpList Try.prog ops Q rest ((a.put (some d) (.slice (some ⟨w.heap.size, 0, none⟩) 1 1)).put o2.dst v') W) : wpList Try.prog ops Q (o1 :: o2 :: rest) a w := by
  refine wpList_plain hg1 fun K hK => ?_
  unfold Oper.wp execOp
  simp only [ho1, List.map_toArray, List.map_cons, List.map_nil, hx, Sem.run_bind, bs70, Result.andThen_ok]
  refine hK (a.put o1.dst (.slice (some ⟨w.heap.size, 0, none⟩) 1 1)) (w.alloc (.cells [Value.int .i64 n].toArray 3)) ?_
  rw [hd1]
  have k1 : Kept [] w (w.alloc (.cells [Value.int .i64 n].toArray 3)) := (Kept.refl _ _).alloc _
  have hI1 := hI.kept k1 (by simp)
  have hsz := k1.size
  obtain ⟨v', w', hr, h1, h2⟩ := run_app70 _ o2.type v _ L hI1 (by omega) w.heap.size n (Blk.new w 3 _) hn
  refine wpList_plain hg2 fun K hK => ?_
  unfold Oper.wp execOp
  simp only [ho2, resolve, invoke, builtin, Sem.run_bind, Sem.run_pure, Result.andThen_ok, List.map_toArray, List.map_cons, List.map_nil, hs, hp, hr]
  exact hK _ _ (h v' w' h1 ((k1.mono (by simp)).trans h2))
end
/-- Who is suspected, of the first j. -/
def Wt.sus (v : Wt) : Nat → List Int
  | 0 => []
  | j + 1 => v.sus j ++ (if v.p ≤ (v.ls.getD j lk0).age then [(j : Int)] else [])
theorem sus_len (v : Wt) : ∀ j, (v.sus j).length ≤ j
  | 0 => by simp [Wt.sus]
  | j + 1 => by
    have := sus_len v j
    rw [Wt.sus, List.length_append]
    split <;> simp <;> omega
theorem blk_slice {w : World} {base c : Nat} {u : Value} {L : List Int} (hI : Ints w base u L) (hB : Blk w c 70 [u]) : c ∉ u.ownBlock.toList := by
  rw [Option.mem_toList]
  intro e
  obtain ⟨_, cs, hc⟩ := hI.block _ e
  unfold Blk at hB
  rw [hc] at hB
  injection hB with hB
  injection hB with _ hB
  exact absurd hB (by decide)
theorem one_slice (ao : Option Addr) (n c : Nat) : One (.slice ao n c) := ⟨rfl, rfl⟩
set_option maxHeartbeats 2000000 in
theorem tell43 (base c : Nat) (n : Int) (u : Value) (L : List Int) (w : World) (hB : Blk w c 70 [u]) (hI : Ints w base u L) (hc : base ≤ c) (hL : L.length ≤ 1000) (hb : base ≤ w.heap.size) : Calls Try.prog 43 #[.int .i64 n, P0 c] w fun e w' => e = .returned (.tuple #[]) ∧ ∃ u', Blk w' c 70 [u'] ∧ Ints w' base u' (L ++ [n]) ∧ Below base w w' := by
  have HB := hide hB
  have HI := hide hI
  have HL := hide hL
  have c0 := fits_cell hB 0 _ rfl
  obtain ⟨ao, cp, hu⟩ := hI.sl
  have HU := hide hu
  clear hB hI hL hu
  go_enter Try.func43, Try.ntmps43
  go_wp2_with (
    first
    | (refine wpApp70 rfl rfl (.tmp 4) 5 rfl rfl (.tmp 3) rfl u base L n rfl (fun _ => rfl) (fun _ => rfl) (unhide HI) (by first | exact hb | omega) (unhide HL) ?_
       intro v' W1 I1 K1
       have HI1 := hide I1
       have HB1 : Hid (Blk W1 c 70 [u]) := hide ((unhide HB).kept K1 (blk_slice (unhide HI) (unhide HB)))
       have HK1 : Hid (Below base w W1) := hide (Below.ofKept K1 (fun i hi => by rw [Option.mem_toList] at hi; exact ((unhide HI).block i hi).1) hb)
       obtain ⟨ao2, cp2, hu2⟩ := I1.sl
       have HU2 := hide hu2
       clear I1 K1 c0 hu2
       refine Stp.go ?_))
  constructor
  go_wp2_with (
    first
    | (refine wpStoreB size70 rfl (.tmp 1) (.tmp 6) rfl rfl c 0 v' (by rw [unhide HU2]; exact one_slice _ _ _) rfl rfl (unhide HB1) (by simp) ?_
       intro W2 B2 K2
       have HB2 : Hid (Blk W2 c 70 [v']) := hide B2
       have HK2 := hide K2
       clear B2 K2
       refine Stp.go ?_))
  constructor
  go_wp2_with fail
  go_end0
  refine ⟨rfl, v', unhide HB2, ?_, (unhide HK1).trans (Below.ofKept (unhide HK2) (by simpa using hc) (Nat.le_trans hb (unhide HK1).size))⟩
  exact (unhide HI1).kept (unhide HK2) (fun k hk hx => by
    simp at hx; subst hx
    exact blk_slice (unhide HI1) (by have := unhide HB1; unfold Blk at *; obtain ⟨_, cs, hc⟩ := (unhide HI1).block _ hk; rw [hc] at this; injection this with this; injection this with _ h2; exact absurd h2 (by decide)) (by rw [Option.mem_toList]; exact hk))

end Go.Proofs.Ythidiolgngkffaa
