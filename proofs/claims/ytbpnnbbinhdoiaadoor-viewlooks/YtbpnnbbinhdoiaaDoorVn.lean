/-
  Rows of numbers; the document's List and Master.
-/
import Derived.Test.YtbpnnbbinhdoiaaDoorVl
import Derived.Test.YtbpnnbbinhdoiaaDoorVd
import Derived.Maps.AppendAt
namespace Go.Proofs.YtbpnnbbinhdoiaaDoor
set_option maxRecDepth 100000
open Go.RowKit


/-- The numbers as cells. -/
def iC (L : List Int) : List Value := L.map (Value.int .i64)
/-- A row of numbers of one's own, in a block made since. -/
def Ints (W : World) (base : Nat) (v : Value) (L : List Int) : Prop := W.ownsRow base 3 1 v L.length (iC L)
theorem Ints.nil (W : World) (base : Nat) : Ints W base (.slice none 0 0) [] := ⟨rfl, .inl ⟨rfl, rfl⟩⟩
theorem Ints.block {W : World} {base : Nat} {v : Value} {L : List Int} (h : Ints W base v L) : ∀ k, v.ownBlock = some k → base ≤ k ∧ ∃ cs, W.heap[k]? = some (.cells cs 3 (0, 0)) := by
  intro k hk
  rcases h.2 with ⟨rfl, _⟩ | ⟨g, cap, cur, rfl, h1, h2, _⟩
  · cases hk
  · cases hk; exact ⟨h1, cur, h2⟩
theorem Ints.kept {W W' : World} {base : Nat} {v : Value} {L : List Int} {X : List Nat} (h : Ints W base v L) (hk : Kept X W W') (hX : ∀ k, v.ownBlock = some k → k ∉ X) : Ints W' base v L := by
  refine ⟨h.1, ?_⟩
  rcases h.2 with h1 | ⟨g, cap, cur, rfl, h1, h2, h3⟩
  · exact .inl h1
  · exact .inr ⟨g, cap, cur, rfl, h1, hk.heap h2 (hX g rfl), h3⟩
theorem Ints.sl {W : World} {base : Nat} {v : Value} {L : List Int} (h : Ints W base v L) : ∃ ao c, v = .slice ao L.length c := by
  rcases h.2 with ⟨rfl, e⟩ | ⟨g, cap, cur, rfl, _⟩
  · rw [e]; exact ⟨none, 0, rfl⟩
  · exact ⟨_, cap, rfl⟩
theorem Ints.base {W : World} {base b2 : Nat} {v : Value} {L : List Int} (h : Ints W base v L) (hb : b2 ≤ base) : Ints W b2 v L := by
  refine ⟨h.1, ?_⟩
  rcases h.2 with h1 | ⟨g, cap, cur, rfl, h1, h2, h3⟩
  · exact .inl h1
  · exact .inr ⟨g, cap, cur, rfl, by omega, h2, h3⟩
/-- The number at a place. -/
theorem Ints.get {W : World} {base : Nat} {v : Value} {L : List Int} (h : Ints W base v L) {i : Nat} {x : Int} (hx : L[i]? = some x) : ∃ g c, v = .slice (some ⟨g, 0, none⟩) L.length c ∧ W.cell? ⟨g, i, none⟩ = some (.int .i64 x) := by
  obtain ⟨hi, _⟩ := List.getElem?_eq_some_iff.1 hx
  rcases h.2 with ⟨_, e⟩ | ⟨g, cap, cur, rfl, _, h2, _, _, h5, h6⟩
  · omega
  · refine ⟨g, cap, rfl, ?_⟩
    rw [cell_of_block h2, ← Array.getElem?_toList]
    have h7 : (iC L)[i]? = some (.int .i64 x) := by simp [iC, hx]
    rw [← h6, List.getElem?_take_of_lt (by omega)] at h7
    exact h7
theorem Tryd.sl50 : Tryd.prog.underlying 50 = some (.slice 3) := by kernel_rfl
theorem Tryd.info3 : (Tryd.prog.info? 3).map (fun i => (i.zero, i.size, i.bytes)) = some (some (.int .i64 0), 1, 8) := by kernel_rfl
theorem run_app50 (w : World) (ty : TypeId) (v : Value) (base : Nat) (L : List Int) (h : Ints w base v L) (hb : base ≤ w.heap.size) (g : Nat) (x : Int) (hB : Blk w g 3 [.int .i64 x]) (hn : L.length ≤ 1000) :
    ∃ v' w', (Builtin.append_ #[50, 50] ty #[v, .slice (some ⟨g, 0, none⟩) 1 1]).run Tryd.prog w = .ok v' w' ∧ Ints w' base v' (L ++ [x]) ∧ Kept v.ownBlock.toList w w' := by
  obtain ⟨i, hi, hz0, hz1, hz2⟩ := info_parts Tryd.info3
  obtain ⟨v', w', hr, g2, g3, _, _⟩ := run_append_own_at (P := Tryd.prog) w base 50 ty 3 i _ 1 8 Tryd.sl50 hi hz0 hz1 hz2 rfl (by decide) v L.length (iC L) h ⟨g, 0, none⟩ 1 1 [.int .i64 x] rfl (fun j u hj => by rw [Addr.add_lit, Nat.zero_add, hB.cell]; exact hj) (fun u hu => by simp at hu; subst hu; rfl) (by unfold maxLen; omega) (by omega) hb
  refine ⟨v', w', hr, ?_, Kept.of_grown g3 (fun k e _ => by rw [e]; simp)⟩
  have : iC (L ++ [x]) = iC L ++ [.int .i64 x] := by simp [iC]
  unfold Ints
  rw [this, List.length_append]
  exact g2
theorem bs50 (w : World) (x : Int) : (Instr.buildSlice 50 1 #[(0, .int .i64 x)]).run Tryd.prog w = .ok (.slice (some ⟨w.heap.size, 0, none⟩) 1 1) (w.alloc (.cells [Value.int .i64 x].toArray 3)) := by kernel_rfl
theorem Mm.app {w0 W W' : World} {bs : List (Nat × Nat × List Value)} (h : Mm w0 W bs) {v : Value} {L : List Int} (hI : Ints W w0.heap.size v L) (hk : Kept v.ownBlock.toList W W') (hT : bs.all (fun x => x.2.1 != 3) = true) : Mm w0 W' bs := by
  have hp := h.first0
  refine ⟨h.kept.fresh hk (fun i hi hl => by rw [Option.mem_toList] at hi; have := (hI.block i hi).1; omega), h.first.keptX hk (by rw [Option.mem_toList]; intro e; have := (hI.block 0 e).1; omega), hp, fun x hx => ⟨(h.blk x hx).1.kept hk ?_, (h.blk x hx).2⟩, h.nd⟩
  rw [Option.mem_toList]
  intro e
  obtain ⟨_, cs, hc⟩ := hI.block _ e
  have hB := (h.blk x hx).1
  unfold Blk at hB
  rw [hc] at hB
  injection hB with hB
  injection hB with _ hB
  have := List.all_eq_true.1 hT x hx
  simp at this
  exact this hB.symm
section
variable {ops : Array Oper} {rest : List Oper} {op : Oper} {a : Act} {w w0 : World} {Q : Exit → Act → World → Prop} {bs : List (Nat × Nat × List Value)}
/-- append(l, x), written out. -/
theorem wpApp50 {o1 o2 : Oper} (hg1 : o1.guard = none) (hg2 : o2.guard = none) (x : Operand) (d : Nat) (ho1 : o1.op = .buildSlice 50 1 #[(0, x)]) (hd1 : o1.dst = some d) (s : Operand) (ho2 : o2.op = .call { callee := .builtin .append, args := #[s, .tmp d], argTypes := #[50, 50] }) (v : Value) (L : List Int) (n : Int) (hx : a.eval x = .int .i64 n)
    (hs : ∀ u, (a.put (some d) u).eval s = v) (hp : ∀ u, (a.put (some d) u).eval (.tmp d) = u) (hM : Mm w0 w bs) (hI : Ints w w0.heap.size v L) (hn : L.length ≤ 1000) (hT : bs.all (fun x => x.2.1 != 3) = true)
    (h : ∀ v' W, Mm w0 W bs → Ints W w0.heap.size v' (L ++ [n]) → wpList Tryd.prog ops Q rest ((a.put (some d) (.slice (some ⟨w.heap.size, 0, none⟩) 1 1)).put o2.dst v') W) : wpList Tryd.prog ops Q (o1 :: o2 :: rest) a w := by
  refine wpList_plain hg1 fun K hK => ?_
  unfold Oper.wp execOp
  simp only [ho1, List.map_toArray, List.map_cons, List.map_nil, hx, Sem.run_bind, bs50, Result.andThen_ok]
  refine hK (a.put o1.dst (.slice (some ⟨w.heap.size, 0, none⟩) 1 1)) (w.alloc (.cells [Value.int .i64 n].toArray 3)) ?_
  rw [hd1]
  have k1 : Kept [] w (w.alloc (.cells [Value.int .i64 n].toArray 3)) := (Kept.refl _ _).alloc _
  have hM1 := hM.step k1
  have hI1 := hI.kept k1 (by simp)
  have hsz := hM1.kept.size
  obtain ⟨v', w', hr, h1, h2⟩ := run_app50 _ o2.type v _ L hI1 hsz w.heap.size n (Blk.new w 3 _) hn
  refine wpList_plain hg2 fun K hK => ?_
  unfold Oper.wp execOp
  simp only [ho2, resolve, invoke, builtin, Sem.run_bind, Sem.run_pure, Result.andThen_ok, List.map_toArray, List.map_cons, List.map_nil, hs, hp, hr]
  exact hK _ _ (h v' w' (hM1.app hI1 h2 hT) h1)
end
set_option maxHeartbeats 2000000 in
theorem list_no (v : Vw) (w : World) (hF : First w) (hv : v.ms.length = 8) (hm : v.may = false) : Calls Tryd.prog 22 #[aggV (vwC v)] w fun e w' => ∃ u, e = .returned u ∧ Ints w' w.heap.size u [] ∧ Kept [] w w' := by
  have P13 : ∀ W, First W → Hid (Calls Tryd.prog 13 #[aggV (vwC v)] W fun e w' => e = .returned (.bool false) ∧ Kept [] W w') := fun W hW => hide (by have := rmay13 v W hW hv; rw [hm] at this; exact this)
  go_enter Tryd.func22, Tryd.ntmps22
  have M : Hid (Mm w w []) := hide (Mm.init hF)
  go_wp2_with (
    first
    | (refine wpBoxV rfl (.tmp 0) rfl (vwC v) rfl ?_
       intro W1 b1 e1 B1 K1
       replace M : Hid (Mm w W1 [(b1, 26, vwC v)]) := hide ((unhide M).new e1 B1 K1)
       clear e1 B1 K1
       refine Stp.go ?_))
  constructor
  go_wp2_with fail
  go_loopw [3, 4] (fun u i wr => u = .slice none 0 0 ∧ i = .int .i64 0 ∧ Hid (Mm w wr [(b1, 26, vwC v)])) (fun _ _ _ => 0)
  case atStart => exact ⟨rfl, rfl, M⟩
  case round =>
    clear M
    obtain ⟨rfl, rfl, M⟩ := hrel
    go_wp2_with (
      first
      | (refine wpLoadG row26 (.tmp 1) rfl rfl b1 0 rfl (vwC v) (vwC_len hv) ((unhide M).at 0 _ rfl).range ?_
         refine Stp.go ?_))
    constructor
    go_wp2_with (
      first
      | (go_at_call 13
         refine (unhide (P13 _ (unhide M).first)).mono ?_
         rintro e W11 ⟨rfl, K11⟩
         replace M : Hid (Mm w W11 [(b1, 26, vwC v)]) := hide ((unhide M).step K11)
         clear K11
         refine Stp.go ?_))
    constructor
    go_wp2_with fail
    go_ret
    exact ⟨_, rfl, Ints.nil _ _, (unhide M).kept⟩
theorem memF_take : ∀ (l : List (Bool × Int)) (i j : Nat) (m : Bool × Int), l[j]? = some m → memF i (l.take (j + 1)) = memF i (l.take j) ++ (if m.1 then [(i + j, m.2)] else []) := by
  intro l
  induction l with
  | nil => intro i j m h; simp at h
  | cons x l ih =>
    intro i j m h
    cases j with
    | zero => simp at h; subst h; simp [memF]
    | succ j =>
      have := ih (i + 1) j m (by simpa using h)
      rw [List.take_succ_cons, List.take_succ_cons, memF, memF, this, show i + 1 + j = i + (j + 1) by omega]
      split <;> simp
set_option maxHeartbeats 2000000 in
theorem list_yes (v : Vw) (w : World) (hF : First w) (hv : v.ms.length = 8) (hm : v.may = true) : Calls Tryd.prog 22 #[aggV (vwC v)] w fun e w' => ∃ u, e = .returned u ∧ Ints w' w.heap.size u ((memF 0 v.ms).map (fun x => (x.1 : Int))) ∧ Kept [] w w' := by
  have P13 : ∀ W, First W → Hid (Calls Tryd.prog 13 #[aggV (vwC v)] W fun e w' => e = .returned (.bool true) ∧ Kept [] W w') := fun W hW => hide (by have := rmay13 v W hW hv; rw [hm] at this; exact this)
  go_enter Tryd.func22, Tryd.ntmps22
  have M : Hid (Mm w w []) := hide (Mm.init hF)
  go_wp2_with (
    first
    | (refine wpBoxV rfl (.tmp 0) rfl (vwC v) rfl ?_
       intro W1 b1 e1 B1 K1
       replace M : Hid (Mm w W1 [(b1, 26, vwC v)]) := hide ((unhide M).new e1 B1 K1)
       clear e1 B1 K1
       refine Stp.go ?_))
  constructor
  go_wp2_with fail
  go_loopw [3, 4] (fun u i wr => ∃ j : Nat, j ≤ 8 ∧ i = .int .i64 j ∧ Hid (Ints wr w.heap.size u ((memF 0 (v.ms.take j)).map (fun x => (x.1 : Int)))) ∧ Hid (Mm w wr [(b1, 26, vwC v)])) (fun _ i _ => 8 - (intOf i).toNat)
  case atStart => exact ⟨0, by omega, rfl, Ints.nil _ _, M⟩
  case round =>
    clear M
    obtain ⟨j, hj, rfl, HI, M⟩ := hrel
    by_cases hlt : j < 8
    · obtain ⟨m, hm2⟩ : ∃ m, v.ms[j]? = some m := ⟨_, List.getElem?_eq_getElem (by omega)⟩
      have hltI : (j : Int) < 8 := by omega
      have hd : decide ((j : Int) < 8) = true := by simpa using hltI
      have HT := hide (memF_take v.ms 0 j m hm2)
      have HC : Hid (∀ W, Mm w W [(b1, 26, vwC v)] → W.cell? ⟨b1, 3 + j * 2, none⟩ = some (.bool m.1)) := by
        intro W hW
        have B := hW.at 0 _ rfl
        obtain ⟨x0, x1⟩ := vwC_at hm2
        rw [Nat.mul_comm] at x0
        exact fits_cell B _ _ x0
      obtain ⟨mi, me⟩ := m
      have HL : Hid (((memF 0 (v.ms.take j)).map (fun x => (x.1 : Int))).length ≤ 1000) := by
        show _ ≤ _
        have := memF_len (v.ms.take j) 0
        rw [List.length_take] at this
        rw [List.length_map]
        omega
      clear hm2
      cases mi with
      | false =>
        go_wp2_with (
          first
          | (refine wpLoadG row26 (.tmp 1) rfl rfl b1 0 rfl (vwC v) (vwC_len hv) ((unhide M).at 0 _ rfl).range ?_
             refine Stp.go ?_))
        constructor
        go_wp2_with (
          first
          | (go_at_call 13
             refine (unhide (P13 _ (unhide M).first)).mono ?_
             rintro e W11 ⟨rfl, K11⟩
             replace M : Hid (Mm w W11 [(b1, 26, vwC v)]) := hide ((unhide M).step K11)
             have hc := unhide HC _ (unhide M)
             replace HI := hide ((unhide HI).kept K11 (by simp))
             clear K11
             refine Stp.go ?_))
        constructor
        go_wp2_with fail
        go_roundw
        case rel =>
          refine ⟨j + 1, by omega, by go_num, ?_, M⟩
          rw [unhide HT]
          simpa using HI
        case measure => simp [intOf]; omega
      | true =>
        go_wp2_with (
          first
          | (refine wpLoadG row26 (.tmp 1) rfl rfl b1 0 rfl (vwC v) (vwC_len hv) ((unhide M).at 0 _ rfl).range ?_
             refine Stp.go ?_))
        constructor
        go_wp2_with (
          first
          | (go_at_call 13
             refine (unhide (P13 _ (unhide M).first)).mono ?_
             rintro e W11 ⟨rfl, K11⟩
             replace M : Hid (Mm w W11 [(b1, 26, vwC v)]) := hide ((unhide M).step K11)
             have hc := unhide HC _ (unhide M)
             replace HI := hide ((unhide HI).kept K11 (by simp))
             clear K11
             refine Stp.go ?_))
        constructor
        go_wp2_with (
          first
          | (refine wpApp50 rfl rfl (.tmp 19) 20 rfl rfl (.tmp 18) rfl u3 ((memF 0 (v.ms.take j)).map (fun x => (x.1 : Int))) (j : Int) rfl (fun _ => rfl) (fun _ => rfl) (unhide M) (unhide HI) (unhide HL) rfl ?_
             intro u9 W12 M9 I9
             replace M : Hid (Mm w W12 [(b1, 26, vwC v)]) := hide M9
             replace HI := hide I9
             clear M9 I9 hc
             refine Stp.go ?_))
        constructor
        go_wp2_with fail
        go_roundw
        case rel =>
          refine ⟨j + 1, by omega, by go_num, ?_, M⟩
          rw [unhide HT]
          simpa using HI
        case measure => simp [intOf]; omega
    · have HE : Hid (v.ms.take j = v.ms) := by show _ = _; rw [List.take_of_length_le (by omega)]
      have hd : decide ((j : Int) < 8) = false := by simp; omega
      go_wp2_with fail
      go_ret
      refine ⟨_, rfl, ?_, (unhide M).kept⟩
      have := unhide HI
      rw [unhide HE] at this
      exact this
theorem list22 (v : Vw) (w : World) (hF : First w) (hv : v.ms.length = 8) : Calls Tryd.prog 22 #[aggV (vwC v)] w fun e w' => ∃ u, e = .returned u ∧ Ints w' w.heap.size u (v.list.map (fun x => (x.1 : Int))) ∧ Kept [] w w' := by
  unfold Vw.list
  cases hm : v.may with
  | false => exact list_no v w hF hv hm
  | true => exact list_yes v w hF hv hm

end Go.Proofs.YtbpnnbbinhdoiaaDoor
