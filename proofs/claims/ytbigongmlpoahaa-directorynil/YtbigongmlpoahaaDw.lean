/-
  The law on none and on directories of no page and one.
-/
import Derived.Test.YtbigongmlpoahaaDv
import Derived.Deep.CutBlock
namespace Go.Proofs.Ytbigongmlpoahaa.D
set_option maxRecDepth 100000
set_option linter.unusedSimpArgs false
open Go.RowKit Go.Shelf
attribute [local go_sem] Oper.semAt_some

/-- The marks that ranges leave. -/
def marks (Ds : List Nat) : List Deferred := Ds.map fun D => { target := .collected D, args := #[] }
structure Mks (w W : World) (Ds : List Nat) : Prop where
  nd : Ds.Nodup
  ats : ∀ D ∈ Ds, w.heap.size ≤ D ∧ W.heap[D]? = some (.deferred (some []))
theorem Mks.kept {w W W' : World} {Ds : List Nat} {X : List Nat} (h : Mks w W Ds) (hk : Kept X W W') (hX : ∀ b ∈ X, ∃ T cs, W.heap[b]? = some (.cells cs T (0, 0))) : Mks w W' Ds := ⟨h.nd, fun D hD => ⟨(h.ats D hD).1, hk.heap (h.ats D hD).2 (fun hm => by
  obtain ⟨T, cs, e⟩ := hX D hm
  rw [(h.ats D hD).2] at e
  cases e)⟩⟩
theorem Mks.kept0 {w W W' : World} {Ds : List Nat} (h : Mks w W Ds) (hk : Kept [] W W') : Mks w W' Ds := h.kept hk (by simp)
theorem Mks.cons {w W : World} {Ds : List Nat} {D : Nat} {W0 : World} (h : Mks w W0 Ds) (hk : ∀ D ∈ Ds, W.heap[D]? = W0.heap[D]?) (h1 : W0.heap.size ≤ D) (h2 : w.heap.size ≤ D) (h3 : W.heap[D]? = some (.deferred (some []))) : Mks w W (D :: Ds) := by
  refine ⟨List.nodup_cons.2 ⟨fun hm => ?_, h.nd⟩, fun D' hD' => ?_⟩
  · have := lt_of_block (h.ats D hm).2
    omega
  · rcases List.mem_cons.1 hD' with rfl | hD'
    · exact ⟨h2, h3⟩
    · exact ⟨(h.ats D' hD').1, by rw [hk D' hD']; exact (h.ats D' hD').2⟩
theorem Mks.turn {w W W2 : World} {Ds : List Nat} {D : Nat} (h : Mks w W Ds) (hk : Kept [] W W2) (h1 : W.heap.size ≤ D) (h2 : w.heap.size ≤ W.heap.size) (h3 : W2.heap[D]? = some (.deferred (some []))) : Mks w W2 (D :: Ds) := by
  have h0 := h.kept0 hk
  refine ⟨List.nodup_cons.2 ⟨fun hm => ?_, h.nd⟩, fun D' hD' => ?_⟩
  · have := (Array.getElem?_eq_some_iff.1 (h.ats D hm).2).1
    omega
  · rcases List.mem_cons.1 hD' with rfl | hD'
    · exact ⟨by omega, h3⟩
    · exact h0.ats D' hD'
theorem res6 (w : World) (b : Nat) (v : Bool) (tmps : Array Value) (h6 : tmps[0]?.getD undef = P0 b) (hb : Blk w b 4 [.bool v]) : (results Try.f6 tmps).run Try.prog w = .ok (.bool v) w := by
  have hc := fits_cell hb 0 _ rfl
  simp [results, Try.results6, h6, asAddr, go_sem, hc]
theorem one_of {α : Type} : ∀ {L : List α}, L.length = 1 → ∃ x, L = [x]
  | [x], _ => ⟨x, rfl⟩
/-- How the law leaves: all marks are taken. -/
theorem leaves6 {w : World} {br : Nat} {tmps : Array Value} (h6 : tmps[0]?.getD undef = P0 br) : ∀ (Ds : List Nat) (W : World), Mks w W Ds → Blk W br 4 [.bool true] → Kept [] w W →
    LeavesInM Fence.wide 4 Try.prog Try.f6 tmps (fun e w' => e = .returned (.bool true) ∧ Kept [] w w') (marks Ds) .returning W := by
  intro Ds
  induction Ds with
  | nil => exact fun W _ hb hk => ⟨_, res6 _ _ _ _ h6 hb, rfl, hk⟩
  | cons D Ds ih =>
    intro W hm hb hk
    obtain ⟨g1, g2⟩ := hm.ats D (by simp)
    have hb1 : Blk (W.putObj D (.deferred none)) br 4 [.bool true] := hb.kept (Kept.put1 (l := D)) (by intro e; simp at e; subst e; unfold Blk at hb; rw [g2] at hb; cases hb)
    have k1 : Kept [] w (W.putObj D (.deferred none)) := kept_kept (B := w.heap.size) hk (grownBy_putObj' _ D (.deferred none)) (Nat.le_refl _) (fun r e => by cases e; exact g1)
    refine ⟨by simp, .inl ⟨_, _, rfl, run_takeDeferred g2, ih _ ⟨(List.nodup_cons.1 hm.nd).2, fun D' hD' => ⟨(hm.ats D' (by simp [hD'])).1, ?_⟩⟩ hb1 k1⟩⟩
    rw [World.putObj_heap_other (fun e => (List.nodup_cons.1 hm.nd).1 (by rw [← e]; exact hD'))]
    exact (hm.ats D' (by simp [hD'])).2
theorem leaves6z {w W0 : World} {br : Nat} {tmps : Array Value} (h6 : tmps[0]?.getD undef = P0 br) (Ds : List Nat) (W : World) (h : Mks W0 W Ds) (hb : Blk W br 4 [.bool true]) (hk : Kept [] w W) (hw : w.heap.size ≤ W0.heap.size) :
    LeavesInM Fence.wide 4 Try.prog Try.f6 tmps (fun e w' => e = .returned (.bool true) ∧ Kept [] w w') (marks Ds) .returning W :=
  leaves6 h6 Ds W ⟨h.nd, fun D hD => ⟨Nat.le_trans hw (h.ats D hD).1, (h.ats D hD).2⟩⟩ hb hk
theorem build55 (w : World) : (Instr.build 55 #[]).run Try.prog w = .ok (aggV [.map none]) w := by kernel_rfl
theorem nn65 (w : World) (f : Nat) (cs : Array Value) : Sem.run Try.prog (binOp BinOp.eql 65 (fnV f cs) Value.nilFunc) w = .ok (.bool false) w := by kernel_rfl
section
variable {op : Oper} {ops : Array Oper} {rest : List Oper} {a : Act} {w : World} {Q : Exit → Act → World → Prop}
theorem bs56 (w : World) (c : Nat) : (Instr.buildSlice 56 2 #[(0, .pointer none), (1, P0 c)]).run Try.prog w = .ok (.slice (some ⟨w.heap.size, 0, none⟩) 2 2) (w.alloc (.cells #[.pointer none, P0 c] 42)) := by kernel_rfl
theorem wpBs56 (hgd : op.guard = none) (x y : Operand) (ho : op.op = .buildSlice 56 2 #[(0, x), (1, y)]) (c : Nat) (hx : a.eval x = .pointer none) (hy : a.eval y = P0 c) (h : ∀ W g, g = w.heap.size → Blk W g 42 [.pointer none, P0 c] → Kept [] w W → wpList Try.prog ops Q rest (a.put op.dst (.slice (some ⟨g, 0, none⟩) 2 2)) W) : wpList Try.prog ops Q (op :: rest) a w :=
  wpList_plain hgd fun _ hK => by
    unfold Oper.wp execOp
    simp only [ho, List.map_toArray, List.map_cons, List.map_nil, hx, hy, Sem.run_bind, bs56, Result.andThen_ok]
    exact hK _ _ (h _ _ rfl (Blk.new _ _ _) ((Kept.refl _ _).alloc _))
end
/-- What stays throughout the law. -/
structure N6 (W0 W : World) (g c : Nat) (Ds : List Nat) : Prop where
  b : Blk W g 42 [.pointer none, P0 c]
  n : Nil W (P0 c)
  m : Mks W0 W Ds
  k : Kept [] W0 W
theorem N6.step {W0 W W' : World} {g c : Nat} {Ds : List Nat} (h : N6 W0 W g c Ds) (hk : Kept [] W W') : N6 W0 W' g c Ds := ⟨h.b.kept hk (by simp), h.n.step hk, h.m.kept0 hk, h.k.trans hk⟩
theorem N6.own {W0 W W' : World} {g c z : Nat} {Ds : List Nat} (h : N6 W0 W g c Ds) (hz : ∃ T cs, W.heap[z]? = some (.cells cs T (0, 0))) (hg : z ≠ g ∧ z ≠ c ∧ W0.heap.size ≤ z) (hk : Kept [z] W W') : N6 W0 W' g c Ds :=
  ⟨h.b.kept hk (by simp; exact fun e => hg.1 e.symm), by
    rcases h.n with e | ⟨b, e, hb⟩
    · cases e
    · cases e
      exact .inr ⟨_, rfl, hb.kept hk (by simp; exact fun e => hg.2.1 e.symm)⟩, h.m.kept hk (fun b hb => by simp at hb; subst hb; exact hz), h.k.fresh hk (fun i hi hl => by simp at hi; omega)⟩
theorem N6.turn {W0 W W' : World} {g c D : Nat} {Ds : List Nat} (h : N6 W0 W g c Ds) (hk : Kept [] W W') (h1 : W.heap.size ≤ D) (h3 : W'.heap[D]? = some (.deferred (some []))) : N6 W0 W' g c (D :: Ds) :=
  ⟨h.b.kept hk (by simp), h.n.step hk, h.m.turn hk h1 h.k.size h3, h.k.trans hk⟩
set_option maxHeartbeats 16000000 in
theorem nil6 (w : World) : Calls Try.prog 6 #[] w fun e W => e = .returned (.bool true) ∧ Kept [] w W := by
  have hFw := wideF
  refine (callsIn_wide (n := 4)).1 ?_
  refine callsIn_of_wp_marks Try.func6 rfl trivial ?_ rfl
  refine wpIn_wide.2 ?_
  simp only [Try.ntmps6, List.size_toArray, List.length_cons, List.length_nil, Nat.reduceAdd, Nat.reduceSub, Array.replicate_succ, Array.replicate_zero, List.push_toArray, List.append_toArray, List.nil_append, List.cons_append]
  go_wp2_with (
    first
    | (refine wpAllocW ([Value.bool false]) zero4d 0 rfl rfl rfl ?_
       intro W0 z0 e1 B1 K1
       have HZ0 := hide B1
       have HK0 := hide K1
       have HGZ : Hid (w.heap.size ≤ z0) := by show _ ≤ _; omega
       clear e1 B1 K1
       refine Stp.go ?_))
  constructor
  go_wp2_with (
    first
    | (refine wpBoxV rfl (.tmp 26) rfl [.map none] rfl ?_
       intro V98 c e9 B9 h3
       have HNN : Hid (Nil V98 (P0 c)) := .inr ⟨c, rfl, B9⟩
       have HCL : Hid (c < V98.heap.size) := B9.lt
       have HK := hide h3
       clear e9 B9 h3
       refine Stp.go ?_))
  constructor
  go_wp2_with (
    first
    | (refine wpBs56 rfl (.const (.pointer none)) (.tmp 27) rfl c rfl rfl ?_
       intro V99 g e9 B9 h3
       have HN : Hid (N6 W0 V99 g c []) := ⟨B9, (unhide HNN).step h3, ⟨List.nodup_nil, fun D hD => by cases hD⟩, (unhide HK).trans h3⟩
       have HCG : Hid (c < V99.heap.size ∧ g < V99.heap.size) := ⟨by have := unhide HCL; have := h3.size; omega, B9.lt⟩
       clear e9 B9 h3 HNN HK
       refine Stp.go ?_))
  constructor
  go_wp2_with fail
  refine wp_loop_rounds 3 ?_
  rw [rounds_succ]
  have k0 := fits_cell (unhide HN).b 0 _ rfl
  go_wp2_with (
    first
    | (go_at_call 15
       refine Stp.go ?_))
  constructor
  refine (want15_z (.inl rfl) (-1) 0 1).mono ?_
  rintro e V15_0 ⟨rfl, h3⟩
  replace HN := hide ((unhide HN).step h3)
  clear h3
  clear k0
  go_wp2_with (
    first
    | (go_at_call 16
       refine Stp.go ?_))
  constructor
  refine (clean16_z (.inl rfl) (-1) 0).mono ?_
  rintro e V16_0 ⟨rfl, h3⟩
  replace HN := hide ((unhide HN).step h3)
  clear h3
  go_wp2_with (
    first
    | (go_at_call 17
       refine Stp.go ?_))
  constructor
  refine (gone17_z (.inl rfl) (-1) 0 0).mono ?_
  rintro e V17_0 ⟨rfl, h3⟩
  replace HN := hide ((unhide HN).step h3)
  clear h3
  go_wp2_with (
    first
    | (go_at_call 18
       refine Stp.go ?_))
  constructor
  refine (got18_z (.inl rfl) (-1) 0 0).mono ?_
  rintro e V18_0 ⟨rfl, h3⟩
  replace HN := hide ((unhide HN).step h3)
  clear h3
  go_wp2_with (
    first
    | (go_at_call 19
       refine Stp.go ?_))
  constructor
  refine (rel19_z (.inl rfl) (-1) 0 0).mono ?_
  rintro e V19_0 ⟨rfl, h3⟩
  replace HN := hide ((unhide HN).step h3)
  clear h3
  go_wp2_with (
    first
    | (go_at_call 20
       refine Stp.go ?_))
  constructor
  refine (wrote20_z (.inl rfl) (-1) 0 0 0).mono ?_
  rintro e V20_0 ⟨rfl, h3⟩
  replace HN := hide ((unhide HN).step h3)
  clear h3
  go_wp2_with (
    first
    | (go_at_call 11
       refine Stp.go ?_))
  constructor
  refine (book11_z (.inl rfl) 0).mono ?_
  rintro e V11_0 ⟨rfl, h3⟩
  replace HN := hide ((unhide HN).step h3)
  clear h3
  go_wp2_with (
    first
    | (refine wpAllocW bz43 zero43 16 rfl rfl rfl ?_
       intro VA0 za0 e1 B1 K1
       have HBA := hide B1
       have HGA : Hid (za0 ≠ g ∧ za0 ≠ c ∧ W0.heap.size ≤ za0) := by
         have h8 := (unhide HN).k.size
         have h9 := (unhide HN).b.lt
         have h7 : c < V11_0.heap.size := by
           rcases (unhide HN).n with e | ⟨q, e, hq⟩
           · cases e
           · cases e; exact hq.lt
         exact ⟨by omega, by omega, by omega⟩
       replace HN := hide ((unhide HN).step K1)
       clear e1 B1 K1
       refine Stp.go ?_))
  constructor
  go_wp2_with (
    first
    | (refine wpStB row43 rfl (.tmp 16) (.tmp 70) rfl za0 bz43 bz43 rfl rfl rfl rfl (by decide) bz_one (unhide HBA) ?_
       intro VB0 B2 K2
       replace HN := hide ((unhide HN).own ⟨_, _, unhide HBA⟩ (unhide HGA) K2)
       clear B2 K2 HBA HGA
       refine Stp.go ?_))
  constructor
  go_wp2_with (
    first
    | (go_at_call 21
       refine Stp.go ?_))
  constructor
  refine (idle21_z (.inl rfl)).mono ?_
  rintro e V21_0 ⟨rfl, h3⟩
  replace HN := hide ((unhide HN).step h3)
  clear h3
  go_wp2_with (
    first
    | (go_at_call 13
       refine Stp.go ?_))
  constructor
  refine (copy13_z (.inl rfl)).mono ?_
  rintro e V13_0 ⟨rfl, h3⟩
  replace HN := hide ((unhide HN).step h3)
  clear h3
  go_wp2_with (
    first
    | (go_at_call 22
       refine Stp.go ?_))
  constructor
  refine (pages22_z (.inl rfl)).mono ?_
  rintro e V22_0 ⟨ca22, cb22, rfl, hc, h3⟩
  have HC22 := hide hc
  replace HN := hide ((unhide HN).step h3)
  clear hc h3
  go_wp2_with (
    first
    | (go_at_call 23
       refine Stp.go ?_))
  constructor
  refine (held23_z (.inl rfl) 0).mono ?_
  rintro e V23_0 ⟨ca23, cb23, rfl, hc, h3⟩
  have HC23 := hide hc
  replace HN := hide ((unhide HN).step h3)
  replace HC22 := hide ((unhide HC22).kept h3 (by simp))
  clear hc h3
  have hq1 : ∀ W, Sem.run Try.prog (binOp BinOp.eql 65 (fnV 88 #[P0 ca22, P0 cb22]) Value.nilFunc) W = .ok (.bool false) W := fun W => nn65 W 88 #[P0 ca22, P0 cb22]
  have hq2 : ∀ W, Sem.run Try.prog (binOp BinOp.eql 68 (fnV 89 #[P0 ca23, P0 cb23]) Value.nilFunc) W = .ok (.bool false) W := fun W => nn68 W 89 #[P0 ca23, P0 cb23]
  go_wp2_with fail
  clear hq1 hq2
  refine (wpIn_wide (n := 4)).1 ?_
  refine wp_rangeE 3 88 #[P0 ca22, P0 cb22] rfl ent88 (fun lp V hk => as88_z lp ((unhide HC22).kept hk (by simp))) ?_
  intro D22_0 VR22_0 hD hk hW
  replace HN := hide ((unhide HN).turn hk hD hW)
  replace HC23 := hide ((unhide HC23).kept hk (by simp))
  clear hD hk hW
  go_wp2_with fail
  refine (wpIn_wide (n := 4)).1 ?_
  refine wp_rangeE 3 89 #[P0 ca23, P0 cb23] rfl ent89 (fun lp V hk => as89_z lp ((unhide HC23).kept hk (by simp))) ?_
  intro D23_0 VR23_0 hD hk hW
  replace HN := hide ((unhide HN).turn hk hD hW)
  clear hD hk hW
  clear HC22 HC23
  go_wp2_with fail
  rw [rounds_succ]
  have k1 := fits_cell (unhide HN).b 1 _ rfl
  go_wp2_with (
    first
    | (go_at_call 15
       refine Stp.go ?_))
  constructor
  refine (want15_z (unhide HN).n (-1) 0 1).mono ?_
  rintro e V15_1 ⟨rfl, h3⟩
  replace HN := hide ((unhide HN).step h3)
  clear h3
  clear k1
  go_wp2_with (
    first
    | (go_at_call 16
       refine Stp.go ?_))
  constructor
  refine (clean16_z (unhide HN).n (-1) 0).mono ?_
  rintro e V16_1 ⟨rfl, h3⟩
  replace HN := hide ((unhide HN).step h3)
  clear h3
  go_wp2_with (
    first
    | (go_at_call 17
       refine Stp.go ?_))
  constructor
  refine (gone17_z (unhide HN).n (-1) 0 0).mono ?_
  rintro e V17_1 ⟨rfl, h3⟩
  replace HN := hide ((unhide HN).step h3)
  clear h3
  go_wp2_with (
    first
    | (go_at_call 18
       refine Stp.go ?_))
  constructor
  refine (got18_z (unhide HN).n (-1) 0 0).mono ?_
  rintro e V18_1 ⟨rfl, h3⟩
  replace HN := hide ((unhide HN).step h3)
  clear h3
  go_wp2_with (
    first
    | (go_at_call 19
       refine Stp.go ?_))
  constructor
  refine (rel19_z (unhide HN).n (-1) 0 0).mono ?_
  rintro e V19_1 ⟨rfl, h3⟩
  replace HN := hide ((unhide HN).step h3)
  clear h3
  go_wp2_with (
    first
    | (go_at_call 20
       refine Stp.go ?_))
  constructor
  refine (wrote20_z (unhide HN).n (-1) 0 0 0).mono ?_
  rintro e V20_1 ⟨rfl, h3⟩
  replace HN := hide ((unhide HN).step h3)
  clear h3
  go_wp2_with (
    first
    | (go_at_call 11
       refine Stp.go ?_))
  constructor
  refine (book11_z (unhide HN).n 0).mono ?_
  rintro e V11_1 ⟨rfl, h3⟩
  replace HN := hide ((unhide HN).step h3)
  clear h3
  go_wp2_with (
    first
    | (refine wpAllocW bz43 zero43 16 rfl rfl rfl ?_
       intro VA1 za1 e1 B1 K1
       have HBA := hide B1
       have HGA : Hid (za1 ≠ g ∧ za1 ≠ c ∧ W0.heap.size ≤ za1) := by
         have h8 := (unhide HN).k.size
         have h9 := (unhide HN).b.lt
         have h7 : c < V11_1.heap.size := by
           rcases (unhide HN).n with e | ⟨q, e, hq⟩
           · cases e
           · cases e; exact hq.lt
         exact ⟨by omega, by omega, by omega⟩
       replace HN := hide ((unhide HN).step K1)
       clear e1 B1 K1
       refine Stp.go ?_))
  constructor
  go_wp2_with (
    first
    | (refine wpStB row43 rfl (.tmp 16) (.tmp 70) rfl za1 bz43 bz43 rfl rfl rfl rfl (by decide) bz_one (unhide HBA) ?_
       intro VB1 B2 K2
       replace HN := hide ((unhide HN).own ⟨_, _, unhide HBA⟩ (unhide HGA) K2)
       clear B2 K2 HBA HGA
       refine Stp.go ?_))
  constructor
  go_wp2_with (
    first
    | (go_at_call 21
       refine Stp.go ?_))
  constructor
  refine (idle21_z (unhide HN).n).mono ?_
  rintro e V21_1 ⟨rfl, h3⟩
  replace HN := hide ((unhide HN).step h3)
  clear h3
  go_wp2_with (
    first
    | (go_at_call 13
       refine Stp.go ?_))
  constructor
  refine (copy13_z (unhide HN).n).mono ?_
  rintro e V13_1 ⟨rfl, h3⟩
  replace HN := hide ((unhide HN).step h3)
  clear h3
  go_wp2_with (
    first
    | (go_at_call 22
       refine Stp.go ?_))
  constructor
  refine (pages22_z (unhide HN).n).mono ?_
  rintro e V22_1 ⟨ca22, cb22, rfl, hc, h3⟩
  have HC22 := hide hc
  replace HN := hide ((unhide HN).step h3)
  clear hc h3
  go_wp2_with (
    first
    | (go_at_call 23
       refine Stp.go ?_))
  constructor
  refine (held23_z (unhide HN).n 0).mono ?_
  rintro e V23_1 ⟨ca23, cb23, rfl, hc, h3⟩
  have HC23 := hide hc
  replace HN := hide ((unhide HN).step h3)
  replace HC22 := hide ((unhide HC22).kept h3 (by simp))
  clear hc h3
  have hq1 : ∀ W, Sem.run Try.prog (binOp BinOp.eql 65 (fnV 88 #[P0 ca22, P0 cb22]) Value.nilFunc) W = .ok (.bool false) W := fun W => nn65 W 88 #[P0 ca22, P0 cb22]
  have hq2 : ∀ W, Sem.run Try.prog (binOp BinOp.eql 68 (fnV 89 #[P0 ca23, P0 cb23]) Value.nilFunc) W = .ok (.bool false) W := fun W => nn68 W 89 #[P0 ca23, P0 cb23]
  go_wp2_with fail
  clear hq1 hq2
  refine (wpIn_wide (n := 4)).1 ?_
  refine wp_rangeE 3 88 #[P0 ca22, P0 cb22] rfl ent88 (fun lp V hk => as88_z lp ((unhide HC22).kept hk (by simp))) ?_
  intro D22_1 VR22_1 hD hk hW
  replace HN := hide ((unhide HN).turn hk hD hW)
  replace HC23 := hide ((unhide HC23).kept hk (by simp))
  clear hD hk hW
  go_wp2_with fail
  refine (wpIn_wide (n := 4)).1 ?_
  refine wp_rangeE 3 89 #[P0 ca23, P0 cb23] rfl ent89 (fun lp V hk => as89_z lp ((unhide HC23).kept hk (by simp))) ?_
  intro D23_1 VR23_1 hD hk hW
  replace HN := hide ((unhide HN).turn hk hD hW)
  clear hD hk hW
  clear HC22 HC23
  go_wp2_with fail
  rw [rounds_succ]
  go_wp2_with (
    first
    | (go_at_call 24
       refine Stp.go ?_))
  constructor
  refine (new24 _ [] _ (Rw.nil _) (by decide)).mono ?_
  rintro e W1 ⟨h3, ⟨_, b0, mb0, L, rfl, h2, h4, h5, _⟩ | ⟨h9, _⟩⟩
  rotate_left
  · exact absurd h9 (by decide)
  obtain rfl : L = [] := by cases L with | nil => rfl | cons x L => simp at h4
  have H0 : Hid (Dg 0 W1 b0 mb0 []) := h2
  replace HN := hide ((unhide HN).step h3)
  clear h2 h3 h4 h5
  go_wp2_with (
    first
    | (refine wpBs36 rfl (.const (.int .i64 1)) rfl 1 rfl ?_
       intro V39 g39 e39 B39 h3
       have HI := hide (Is.one B39)
       replace HN := hide ((unhide HN).step h3)
       replace H0 := hide ((unhide H0).step0 h3)
       clear e39 B39 h3
       refine Stp.go ?_))
  constructor
  go_wp2_with (
    first
    | (go_at_call 24
       refine Stp.go ?_))
  constructor
  refine (new24 _ [1] _ (unhide HI) (by decide)).mono ?_
  rintro e W2 ⟨h3, ⟨_, b1, mb1, L, rfl, h2, h4, h5, _⟩ | ⟨h9, _⟩⟩
  rotate_left
  · exact absurd h9 (by decide)
  obtain ⟨x1, rfl⟩ : ∃ x, L = [x] := one_of (by have h7 := congrArg List.length h4; simpa using h7)
  obtain ⟨e1, _⟩ := h5 x1 (by simp)
  have k1 : x1.k = 1 := by simpa using h4
  rw [k1] at e1
  obtain ⟨p1, hp⟩ : ∃ p, x1.p = p := ⟨_, rfl⟩
  rw [e1, hp] at h2
  have H1 : Hid (Dg 0 W2 b1 mb1 [Lk.new 1 p1]) := h2
  clear e1 k1 hp
  replace HN := hide ((unhide HN).step h3)
  replace H0 := hide ((unhide H0).step0 h3)
  clear h2 h3 h4 h5
  clear HI
  go_wp2_with (
    first
    | (refine wpBs36 rfl (.const (.int .i64 2)) rfl 2 rfl ?_
       intro V39 g39 e39 B39 h3
       have HI := hide (Is.one B39)
       replace HN := hide ((unhide HN).step h3)
       replace H0 := hide ((unhide H0).step0 h3)
       replace H1 := hide ((unhide H1).step0 h3)
       clear e39 B39 h3
       refine Stp.go ?_))
  constructor
  go_wp2_with (
    first
    | (go_at_call 24
       refine Stp.go ?_))
  constructor
  refine (new24 _ [2] _ (unhide HI) (by decide)).mono ?_
  rintro e W3 ⟨h3, ⟨_, b2, mb2, L, rfl, h2, h4, h5, _⟩ | ⟨h9, _⟩⟩
  rotate_left
  · exact absurd h9 (by decide)
  obtain ⟨x1, rfl⟩ : ∃ x, L = [x] := one_of (by have h7 := congrArg List.length h4; simpa using h7)
  obtain ⟨e1, _⟩ := h5 x1 (by simp)
  have k1 : x1.k = 2 := by simpa using h4
  rw [k1] at e1
  obtain ⟨p2, hp⟩ : ∃ p, x1.p = p := ⟨_, rfl⟩
  rw [e1, hp] at h2
  have H2 : Hid (Dg 0 W3 b2 mb2 [Lk.new 2 p2]) := h2
  clear e1 k1 hp
  replace HN := hide ((unhide HN).step h3)
  replace H0 := hide ((unhide H0).step0 h3)
  replace H1 := hide ((unhide H1).step0 h3)
  clear h2 h3 h4 h5
  clear HI
  have k1 := fits_cell (unhide HN).b 1 _ rfl
  go_wp2_with (
    first
    | (go_at_call 14
       refine Stp.go ?_))
  constructor
  refine (same14_zz (.inl rfl) (unhide HN).n).mono ?_
  rintro e X1 ⟨rfl, h3⟩
  replace HN := hide ((unhide HN).step h3)
  replace H0 := hide ((unhide H0).step0 h3)
  replace H1 := hide ((unhide H1).step0 h3)
  replace H2 := hide ((unhide H2).step0 h3)
  clear h3
  clear k1
  go_wp2_with (
    first
    | (go_at_call 14
       refine Stp.go ?_))
  constructor
  refine (same14_pz (unhide H0) (.inl rfl)).mono ?_
  rintro e X2 ⟨rfl, h3⟩
  replace HN := hide ((unhide HN).step h3)
  replace H0 := hide ((unhide H0).step0 h3)
  replace H1 := hide ((unhide H1).step0 h3)
  replace H2 := hide ((unhide H2).step0 h3)
  clear h3
  go_wp2_with (
    first
    | (go_at_call 13
       refine Stp.go ?_))
  constructor
  refine (copy13 (unhide H0)).mono ?_
  rintro e X3 ⟨b9, mb9, C, rfl, h2, h4, _, _, h3⟩
  have h9 : C.map Lk.k = [] := h4.ks
  obtain rfl : C = [] := List.map_eq_nil_iff.1 h9
  clear h9
  have H9 := hide h2
  replace HN := hide ((unhide HN).step h3)
  replace H0 := hide ((unhide H0).step0 h3)
  replace H1 := hide ((unhide H1).step0 h3)
  replace H2 := hide ((unhide H2).step0 h3)
  clear h2 h3 h4
  go_wp2_with (
    first
    | (go_at_call 14
       refine Stp.go ?_))
  constructor
  refine (same14 (unhide H0) (unhide H9) rfl (by decide) (fun x hx => by cases hx)).mono ?_
  rw [show hasD [] [] = true from rfl]
  rintro e X4 ⟨rfl, h3⟩
  replace HN := hide ((unhide HN).step h3)
  replace H0 := hide ((unhide H0).step0 h3)
  replace H1 := hide ((unhide H1).step0 h3)
  replace H2 := hide ((unhide H2).step0 h3)
  clear h3
  go_wp2_with (
    first
    | (go_at_call 14
       refine Stp.go ?_))
  constructor
  refine (same14_len (unhide H0) (unhide H1) (by simp)).mono ?_
  rintro e X5 ⟨rfl, h3⟩
  replace HN := hide ((unhide HN).step h3)
  replace H0 := hide ((unhide H0).step0 h3)
  replace H1 := hide ((unhide H1).step0 h3)
  replace H2 := hide ((unhide H2).step0 h3)
  clear h3
  go_wp2_with (
    first
    | (go_at_call 14
       refine Stp.go ?_))
  constructor
  refine (same14 (unhide H1) (unhide H2) rfl (by decide) (fun x hx y hy => by
    have hr : rise [Lk.new 1 p1] = [Lk.new 1 p1] := rfl
    rw [hr, List.mem_singleton] at hx
    subst hx
    have h8 : lkOf (Lk.new 1 p1).k [Lk.new 2 p2] = none := rfl
    rw [h8] at hy
    cases hy)).mono ?_
  rw [show hasD [Lk.new 1 p1] [Lk.new 2 p2] = false from rfl]
  rintro e X6 ⟨rfl, h3⟩
  replace HN := hide ((unhide HN).step h3)
  replace H0 := hide ((unhide H0).step0 h3)
  replace H1 := hide ((unhide H1).step0 h3)
  replace H2 := hide ((unhide H2).step0 h3)
  clear h3
  go_wp2_with (
    first
    | (go_at_call 7
       refine Stp.go ?_))
  constructor
  refine (known7 _).mono ?_
  rintro e X9 ⟨rfl, h3⟩
  replace HN := hide ((unhide HN).step h3)
  clear h3
  go_wp2_with (
    first
    | (refine wpStF size4d rfl (.tmp 0) (.tmp 174) rfl rfl z0 0 (.bool true) ⟨rfl, rfl⟩ rfl rfl ((unhide HZ0).kept (unhide HN).k (by simp)) (by decide) ?_
       intro X10 B5 K5
       have HZE : Hid (Blk X10 z0 4 [.bool true]) := B5
       have HZ9 := (unhide HZ0).kept (unhide HN).k (by simp)
       have HKE := hide (((unhide HK0).trans (unhide HN).k).fresh K5 (fun i hi hl => by simp at hi; have := unhide HGZ; omega))
       have HME := hide ((unhide HN).m.kept K5 (fun b hb => by simp at hb; subst hb; exact ⟨_, _, HZ9⟩))
       clear B5 K5 HZ9
       refine Stp.go ?_))
  constructor
  go_wp2_with fail
  refine (show LeavesInM Fence.wide 4 Try.prog Try.f6 _ _ (marks [D23_1, D22_1, D23_0, D22_0]) .returning X10 from ?_)
  exact leaves6z rfl _ _ (unhide HME) (unhide HZE) (unhide HKE) (unhide HK0).size

end Go.Proofs.Ytbigongmlpoahaa.D
