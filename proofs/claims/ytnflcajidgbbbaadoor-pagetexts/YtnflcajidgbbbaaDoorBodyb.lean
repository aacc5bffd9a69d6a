/-
  The walk of Body, its loop over the iterator.
-/
import Derived.Test.YtnflcajidgbbbaaDoorBody
namespace Go.Proofs.YtnflcajidgbbbaaDoor
open Go.RowKit Go.Shelf
attribute [local go_sem] Oper.semAt_some

theorem inAllocV {F : Fence} {n : Nat} {ops : Array Oper} {rest : List Oper} {o : Oper} {a : Act} {w : World} {Q : Exit → Act → World → Prop} {T : Nat} (vs : List Value) (hr : ∀ w : World, (Instr.alloc T true (.tuple #[])).run Tryd.prog w = .ok (P0 w.heap.size) (w.alloc (.cells vs.toArray T))) (d : Nat) (_ : o.dst = some d) (hF : ∀ f, F.fn f) (hw : Region.wanted o (yielded ops a.tmps) = true) (ho : o.op = .alloc T) (hsem : o.semAt F.round a.eval = execOp a.eval o)
    (h : ∀ W, W = w.alloc (.cells vs.toArray T) → wpListIn F n Tryd.prog ops Q rest (a.put o.dst (P0 w.heap.size)) W) : wpListIn F n Tryd.prog ops Q (o :: rest) a w :=
  inAllocA vs hr hF hw ho hsem (h _ rfl)

theorem str_inj {a b : List Int} (ha : ∀ x ∈ a, 0 ≤ x ∧ x < 256) (hb : ∀ x ∈ b, 0 ≤ x ∧ x < 256) (h : (a.map fun x => UInt8.ofNat x.toNat) = b.map fun x => UInt8.ofNat x.toNat) : a = b := by
  have hl : a.length = b.length := by simpa using congrArg List.length h
  apply List.ext_getElem hl
  intro i h1 h2
  have e := congrArg (fun l => (l[i]?.map UInt8.toNat)) h
  simp [h1, h2] at e
  have := ha a[i] (List.getElem_mem h1)
  have := hb b[i] (List.getElem_mem h2)
  omega
theorem beqS (a b : List Int) (ha : ∀ x ∈ a, 0 ≤ x ∧ x < 256) (hb : ∀ x ∈ b, 0 ≤ x ∧ x < 256) : ((a.map fun x => UInt8.ofNat x.toNat) == (b.map fun x => UInt8.ofNat x.toNat)) = decide (a = b) := by
  rw [Bool.eq_iff_iff]
  simp only [beq_iff_eq, decide_eq_true_eq]
  exact ⟨fun h => str_inj ha hb h, fun h => by rw [h]⟩
theorem run_neqS (a b : List Int) (ha : ∀ x ∈ a, 0 ≤ x ∧ x < 256) (hb : ∀ x ∈ b, 0 ≤ x ∧ x < 256) (w : World) : (binOp .neq 9 (strV a) (strV b)).run Tryd.prog w = .ok (.bool (!decide (a = b))) w := by
  simp [strV, go_sem]
  exact beqS a b ha hb
theorem run_eqlS (a b : List Int) (ha : ∀ x ∈ a, 0 ≤ x ∧ x < 256) (hb : ∀ x ∈ b, 0 ≤ x ∧ x < 256) (w : World) : (binOp .eql 9 (strV a) (strV b)).run Tryd.prog w = .ok (.bool (decide (a = b))) w := by
  simp [strV, go_sem]
  exact beqS a b ha hb
theorem run_guardS (a b : List Int) (o : BinOp) (x y : Operand) (w : World) : (eqGuard o 9 x y (strV a) (strV b)).run Tryd.prog w = .ok () w := by
  cases o <;> simp [eqGuard, strV]
/-- Blocks of cells where the deferred calls' block turns. -/
theorem blk_put {W : World} {b T D : Nat} {vs : List Value} {o o' : Obj} (h : Blk W b T vs) (hD : W.heap[D]? = some o) (hc : o.isCells = false) : Blk (W.putObj D o') b T vs :=
  blk_turn h (grownBy_putObj' _ D o') (fun r e => by cases e; exact ⟨_, hD, hc⟩)
theorem esc_byte {c : Int} (h : 0 ≤ c ∧ c < 256) : ∀ x ∈ esc c, 0 ≤ x ∧ x < 256 := by
  unfold esc
  intro x hx
  split at hx
  · simp at hx; subst hx; exact h
  · simp at hx
    rcases hx with rfl | rfl | rfl
    · omega
    · exact dig_byte _
    · exact dig_byte _
theorem text_byte {s : List Int} {n : Nat} (hs : Byts n s) : ∀ x ∈ textL s, 0 ≤ x ∧ x < 256 := by
  unfold textL
  intro x hx
  split at hx
  · simp at hx; omega
  · obtain ⟨c, hc, hx⟩ := List.mem_flatMap.1 hx
    exact esc_byte (hs.byte c (List.mem_of_mem_take hc)) x hx

/-- The frame of Body where a round begins. -/
def bdA (L : List Int) (n q : Nat) (x : Int) : Act := { tmps := #[strV L, undef, P0 n, P0 (n + 1), P0 (n + 1 + 1), P0 (n + 1 + 1 + 1), .int .u8 x, strV L, .int .i64 L.length, .bool (decide (288 < (L.length : Int))), undef, strV L, .func (.func 43) #[] #[P0 q], .int .u8 x, undef, undef, undef, undef, undef, undef, undef, undef, undef, undef, undef, undef, undef, undef], defers := [] }

set_option maxHeartbeats 4000000 in
set_option maxRecDepth 100000 in
theorem body_in (L : List Int) (hL : ∀ x ∈ L, 0 ≤ x ∧ x < 256) (h288 : L.length ≤ 288) (w : World) : CallsIn Fence.wide 3 Tryd.prog 20 #[strV L] w fun e w' => e = .returned (.tuple #[aggV (u8s (bodyL L).1), .int .i64 (bodyL L).2]) ∧ Kept [] w w' := by
  have hlen := run_lenS L
  have hFw := wideF
  refine callsIn_of_wp_marks Tryd.func20 rfl trivial ?_ rfl
  simp only [Tryd.ntmps20, List.size_toArray, List.length_cons, List.length_nil, Nat.reduceAdd, Nat.reduceSub, Array.replicate_succ, Array.replicate_zero, List.push_toArray, List.append_toArray, List.nil_append, List.cons_append]
  gi_wp2_with (
    first
    | (refine inAllocV (u8s (zs 96)) zero23 2 rfl wideF (by rfl) (by rfl) (by rfl) ?_
       intro W1 eW1
       have b0 : Hid (Blk W1 w.heap.size 23 (u8s (zs 96))) := by rw [eW1]; exact Blk.new' rfl
       have bk : Hid (Kept [] w W1) := by rw [eW1]; exact (Kept.refl _ _).alloc _
       have s1 : W1.heap.size = w.heap.size + 1 := by rw [eW1]; simp
       clear eW1)
    | (refine inAllocV [.int .i64 0] zero29 3 rfl wideF (by rfl) (by rfl) (by rfl) ?_
       intro W2 eW2
       have c0 : Hid (Blk W2 w.heap.size 23 (u8s (zs 96))) := by rw [eW2]; exact (unhide b0).alloc _
       have c1 : Hid (Blk W2 (w.heap.size + 1) 29 [.int .i64 0]) := by rw [eW2]; exact Blk.new' s1.symm
       have ck : Hid (Kept [] w W2) := by rw [eW2]; exact (unhide bk).alloc _
       have s2 : W2.heap.size = w.heap.size + 1 + 1 := by rw [eW2]; simp [s1]
       clear eW2 b0 bk)
    | (refine inAllocV (u8s (zs 96)) zero23 4 rfl wideF (by rfl) (by rfl) (by rfl) ?_
       intro W3 eW3
       have d0 : Hid (Blk W3 w.heap.size 23 (u8s (zs 96))) := by rw [eW3]; exact (unhide c0).alloc _
       have d1 : Hid (Blk W3 (w.heap.size + 1) 29 [.int .i64 0]) := by rw [eW3]; exact (unhide c1).alloc _
       have d2 : Hid (Blk W3 (w.heap.size + 1 + 1) 23 (u8s (zs 96))) := by rw [eW3]; exact Blk.new' s2.symm
       have dk : Hid (Kept [] w W3) := by rw [eW3]; exact (unhide ck).alloc _
       have s3 : W3.heap.size = w.heap.size + 1 + 1 + 1 := by rw [eW3]; simp [s2]
       clear eW3 c0 c1 ck)
    | (refine inAllocV [.int .i64 0] zero3 5 rfl wideF (by rfl) (by rfl) (by rfl) ?_
       intro W4 eW4
       have e0 : Hid (Blk W4 w.heap.size 23 (u8s (zs 96))) := by rw [eW4]; exact (unhide d0).alloc _
       have e1 : Hid (Blk W4 (w.heap.size + 1) 29 [.int .i64 0]) := by rw [eW4]; exact (unhide d1).alloc _
       have e2 : Hid (Blk W4 (w.heap.size + 1 + 1) 23 (u8s (zs 96))) := by rw [eW4]; exact (unhide d2).alloc _
       have e3 : Blk W4 (w.heap.size + 1 + 1 + 1) 3 [.int .i64 0] := by rw [eW4]; exact Blk.new' s3.symm
       have ek : Hid (Kept [] w W4) := by rw [eW4]; exact (unhide dk).alloc _
       have s4 : W4.heap.size = w.heap.size + 1 + 1 + 1 + 1 := by rw [eW4]; simp [s3]
       rw [s3]
       have f3 := fits_cell e3 0 (.int .i64 0) rfl
       have z3 := e3.frozen 0
       have E3 := hide e3
       clear eW4 d0 d1 d2 dk e3)
    | (gi_at_call 34; refine (callsIn_wide.2 (meant34 L _)).mono ?_; rintro e w1 ⟨rfl, hw1⟩))
  have hq : ((W4.setCell ⟨w.heap.size + 1 + 1 + 1, 0, none⟩ (.int .i64 0)).alloc (.cells #[strV L] 9)).heap[w.heap.size + 1 + 1 + 1 + 1]? = some (.cells #[strV L] 9 (0, 0)) := by
    have : Blk ((W4.setCell ⟨w.heap.size + 1 + 1 + 1, 0, none⟩ (.int .i64 0)).alloc (.cells [strV L].toArray 9)) (w.heap.size + 1 + 1 + 1 + 1) 9 [strV L] := Blk.new' (by simp [World.setCell, s4])
    exact this
  have hI0 : BI w w.heap.size [] ((W4.setCell ⟨w.heap.size + 1 + 1 + 1, 0, none⟩ (.int .i64 0)).alloc (.cells #[strV L] 9)) :=
    ⟨by simp, ((unhide e0).set_other (by omega) _).alloc _, ((unhide e1).set_other (by omega) _).alloc _, ((unhide e2).set_other (by omega) _).alloc _, ((unhide E3).set (i := 0) (.int .i64 0)).alloc _, ((unhide ek).setCell (by simp; omega) _).alloc _⟩
  have hsz : w.heap.size ≤ ((W4.setCell ⟨w.heap.size + 1 + 1 + 1, 0, none⟩ (.int .i64 0)).alloc (.cells #[strV L] 9)).heap.size := hI0.k.size
  clear hw1 w1 e0 e1 e2 E3 ek f3 z3 s1 s2 s3 s4 W1 W2 W3
  generalize ((W4.setCell ⟨w.heap.size + 1 + 1 + 1, 0, none⟩ (.int .i64 0)).alloc (.cells #[strV L] 9)) = W5 at *
  refine wpIn_rangeFunc_ownH rfl (by omega) (gf := 43) (lb := #[P0 (w.heap.size + 1 + 1 + 1 + 1)]) rfl trivial cf43 (mean_stops 2 (by omega) (w.heap.size + 1 + 1 + 1 + 1) L hL (by omega) W5 hq) Kept9.trans (keptb9 _) (Below.refl _ _) (fun _ => rfl)
    (BI w w.heap.size) (fun c pre W => c = .ret ∧ BX w w.heap.size pre W) (BI.own hsz) (fun c pre A B row hs hg hr => ⟨hs.1, BX.own hsz pre A B row hs.2 hg hr⟩) hI0
    (fun x a' _ => a' = bdA L w.heap.size (w.heap.size + 1 + 1 + 1 + 1) x) (fun x a' s A B row hs _ _ => hs) ?assign ?body ?done ?stop
  case assign =>
    intro l pre x W K hI hK
    simp only [enc8, List.zip_toArray, List.zip_cons_cons, List.zip_nil_right, List.foldl_toArray, List.foldl_cons, List.foldl_nil, List.setIfInBounds_toArray, List.set_cons_succ, List.set_cons_zero]
    gi_wp2
    exact hK _ _ (KeepsFrom.refl _ _) (Kept9.refl _) hI rfl
  case body =>
    rintro l pre x a' W hl _ hI rfl hlt
    have R := hide hI.r
    have E := hide hI.e
    have B := hide hI.b
    have S := hide hI.s
    have K := hide hI.k
    have hle := hI.le
    clear hI
    have qs := fits_cell (unhide S) 0 (.int .i64 pre.length) rfl
    have zq := (unhide S).frozen 0
    by_cases h96 : pre.length = 96
    · rw [h96] at qs
      unfold bdA
      gi_wp2_with (
        first
        | (refine inBuildZ (u8s (zs 96)) build23 (fun _ => trivial) (by rfl) (by rfl) (by rfl) ?_)
        | (refine inStoreA row23 (fun _ => trivial) (by rfl) (.tmp 2) (.tmp 16) (by rfl) (by rfl) w.heap.size 0 (u8s (zs 96)) (by rfl) (by rfl) zl96 (u8s_one _) ((unhide R).there (by rw [zl96]; omega)) ?_
           have R2 := hide ((unhide R).put (vs := u8s (zs 96)) rfl)
           have E2 := hide ((unhide E).other (o := 0) (vs := u8s (zs 96)) (b' := w.heap.size) (by omega))
           have K2 := hide ((unhide K).setCells (b := w.heap.size) (u8s (zs 96)) 0 (by omega))
           have KW : Hid (Kept [w.heap.size, w.heap.size + 1] W (W.setCells w.heap.size 0 (u8s (zs 96)))) := (Kept.refl _ _).setCells _ _ (by simp)
           have hE0 : Hid (∃ cs T p, W.heap[w.heap.size]? = some (.cells cs T p)) := ⟨_, _, _, unhide R⟩
           have hE1 : Hid (∃ cs T p, W.heap[w.heap.size + 1]? = some (.cells cs T p)) := ⟨_, _, _, unhide E⟩
           generalize (W.setCells w.heap.size 0 (u8s (zs 96))) = W6 at *
           have c2 := fits_cell (unhide E2) 0 (.int .i64 0) rfl
           have c3 := (unhide E2).frozen 0))
      refine ⟨keeps_of_kept ((unhide KW).setCell (by simp) _) ?_, rfl, ?_⟩
      · intro k hk
        rcases (show k = w.heap.size ∨ k = w.heap.size + 1 by simpa using hk) with rfl | rfl
        · exact unhide hE0
        · exact unhide hE1
      · exact ⟨by simp; omega, (unhide R2).set_other (by omega) _, (unhide E2).set (i := 0) (.int .i64 4), (unhide K2).setCell (by simp) _⟩
    · have hpb : ((pre.length : Int) == 96) = false := beq_eq_false_iff_ne.2 (by omega)
      have hpl := pad_len hle
      have qb : W.cell? ⟨w.heap.size + 1 + 1, pre.length, none⟩ = some (.int .u8 ((pad pre)[pre.length]'(by omega))) := fits_cell (unhide B) pre.length _ (by simp [u8s, show pre.length < (pad pre).length by omega])
      have zb := (unhide B).frozen pre.length
      unfold bdA
      gi_wp2
      have kw : Kept [w.heap.size + 1 + 1, w.heap.size + 1 + 1 + 1] W ((W.setCell ⟨w.heap.size + 1 + 1, pre.length, none⟩ (.int .u8 x)).setCell ⟨w.heap.size + 1 + 1 + 1, 0, none⟩ (.int .i64 (pre.length + 1))) := ((Kept.refl _ _).setCell (by simp) _).setCell (by simp) _
      refine ⟨keeps_of_kept kw ?_, Kept9.of_kept kw ?_, ?_⟩
      · intro k hk
        rcases (show k = w.heap.size + 1 + 1 ∨ k = w.heap.size + 1 + 1 + 1 by simpa using hk) with rfl | rfl
        · exact ⟨_, _, _, unhide B⟩
        · exact ⟨_, _, _, unhide S⟩
      · intro k hk cs p hc
        rcases (show k = w.heap.size + 1 + 1 ∨ k = w.heap.size + 1 + 1 + 1 by simpa using hk) with rfl | rfl
        · have := unhide B
          unfold Blk at this
          rw [hc] at this
          simp at this
        · have := unhide S
          unfold Blk at this
          rw [hc] at this
          simp at this
      · refine ⟨by simp; omega, ((unhide R).set_other (by omega) _).set_other (by omega) _, ((unhide E).set_other (by omega) _).set_other (by omega) _, ?_, ?_, ((unhide K).setCell (by simp; omega) _).setCell (by simp; omega) _⟩
        · have := ((unhide B).set (i := pre.length) (.int .u8 x)).set_other (b' := w.heap.size + 1 + 1 + 1) (i := 0) (by omega) (.int .i64 (pre.length + 1))
          rw [u8s_set, pad_snoc (by omega)] at this
          exact this
        · have := ((unhide S).set_other (b' := w.heap.size + 1 + 1) (i := pre.length) (by omega) (.int .u8 x)).set (i := 0) (.int .i64 (pre.length + 1))
          simpa using this
  case done =>
    rintro Dd ys W hDd rfl hI hK
    have R := hide hI.r
    have E := hide hI.e
    have B := hide hI.b
    have K := hide hI.k
    have hle := hI.le
    clear hI
    have hmb := meant_byte L hL
    have hpb := pad_byts hle hmb
    have hpu : (u8s (pad (meantL L))).length = 96 := by rw [u8s_len]; exact hpb.len
    have ht := hide (text19 (pad (meantL L)) hpb W)
    have HK := hide hK
    have hne := run_neqS (textL (pad (meantL L))) L (text_byte hpb) hL
    have hgu := run_guardS (textL (pad (meantL L))) L
    clear hK
    by_cases hT : textL (pad (meantL L)) = L
    · have hdec : decide (textL (pad (meantL L)) = L) = true := decide_eq_true hT
      have hB : Hid (bodyL L = (pad (meantL L), 0)) := by simp [Hid, bodyL, hT, show ¬ 288 < L.length by omega, show ¬ 96 < (meantL L).length by omega]
      have hnq : ∀ w : World, (binOp .neq 9 (strV (textL (pad (meantL L)))) (strV L)).run Tryd.prog w = .ok (.bool false) w := fun w => by rw [hne, hdec]; rfl
      clear hT hne hdec
      gi_wp2_with (
        first
        | (refine inLoadA row23 wideF (by rfl) (.tmp 4) (by rfl) (by rfl) (w.heap.size + 1 + 1) 0 (by rfl) (u8s (pad (meantL L))) hpu (unhide B).range ?_)
        | (refine inLoadA row23 wideF (by rfl) (.tmp 4) (by rfl) (by rfl) (w.heap.size + 1 + 1) 0 (by rfl) (u8s (pad (meantL L))) hpu (unhide B1).range ?_)
        | (gi_at_call 19
           refine (callsIn_wide.2 (unhide ht)).mono ?_
           rintro e w2 ⟨rfl, k2⟩
           have R1 := hide ((unhide R).kept k2 (by simp))
           have B1 := hide ((unhide B).kept k2 (by simp))
           have E1 := hide ((unhide E).kept k2 (by simp))
           have K1 := hide ((unhide K).trans k2)
           have H1 := hide (k2.heap (unhide HK) (by simp))
           clear ht k2 R E B K HK)
        | (refine inStoreA row23 wideF (by rfl) (.tmp 2) (.tmp 27) (by rfl) (by rfl) w.heap.size 0 (u8s (pad (meantL L))) (by rfl) (by rfl) hpu (u8s_one _) ((unhide R1).there (by rw [zl96]; omega)) ?_
           have R2 := hide ((unhide R1).put (vs := u8s (pad (meantL L))) (by rw [zl96]; exact hpu.symm))
           have E2 := hide ((unhide E1).other (o := 0) (vs := u8s (pad (meantL L))) (b' := w.heap.size) (by omega))
           have K2 := hide ((unhide K1).setCells (b := w.heap.size) (u8s (pad (meantL L))) 0 (by omega))
           have H2 : Hid ((w2.setCells w.heap.size 0 (u8s (pad (meantL L)))).heap[Dd]? = some (.deferred (some []))) := by
             show _ = _
             rw [sets_ne _ _ _ _ (by intro e; subst e; have := unhide H1; have h3 := unhide R1; unfold Blk at h3; rw [this] at h3; cases h3)]
             exact unhide H1
           clear R1 E1 K1 H1
           generalize (w2.setCells w.heap.size 0 (u8s (pad (meantL L)))) = W6 at *
           have c2 := fits_cell (unhide E2) 0 (.int .i64 0) rfl
           have c3 := (unhide E2).frozen 0))
      have R3 := hide ((unhide R2).set_other (b' := w.heap.size + 1) (i := 0) (by omega) (.int .i64 0))
      have E3 := hide ((unhide E2).set (i := 0) (.int .i64 0))
      have K3 := hide ((unhide K2).setCell (p := ⟨w.heap.size + 1, 0, none⟩) (by simp) (.int .i64 0))
      have H3 : Hid ((W6.setCell ⟨w.heap.size + 1, 0, none⟩ (.int .i64 0)).heap[Dd]? = some (.deferred (some []))) := by
        refine heap_set_ne (unhide H2) ?_
        intro e; subst e; have := unhide H2; have h3 := unhide E2; unfold Blk at h3; rw [this] at h3; cases h3
      refine ⟨by simp, .inl ⟨_, _, rfl, run_takeDeferred (unhide H3), ?_⟩⟩
      refine ⟨_, res20 _ w.heap.size (w.heap.size + 1) _ _ _ rfl rfl hpu (blk_put (unhide R3) (unhide H3) rfl) (blk_put (unhide E3) (unhide H3) rfl), ?_, ?_⟩
      · rw [unhide hB]
      · exact kept_kept (B := w.heap.size) (unhide K3) (grownBy_putObj' _ Dd (.deferred none)) (Nat.le_refl _) (fun r e => by cases e; omega)
    · have hdec : decide (textL (pad (meantL L)) = L) = false := decide_eq_false hT
      have hB : Hid (bodyL L = (zs 96, 4)) := by simp [Hid, bodyL, hT]; omega
      clear hT
      gi_wp2_with (
        first
        | (refine inLoadA row23 wideF (by rfl) (.tmp 4) (by rfl) (by rfl) (w.heap.size + 1 + 1) 0 (by rfl) (u8s (pad (meantL L))) hpu (unhide B).range ?_)
        | (gi_at_call 19
           refine (callsIn_wide.2 (unhide ht)).mono ?_
           rintro e w2 ⟨rfl, k2⟩
           have R1 := hide ((unhide R).kept k2 (by simp))
           have E1 := hide ((unhide E).kept k2 (by simp))
           have K1 := hide ((unhide K).trans k2)
           have H1 := hide (k2.heap (unhide HK) (by simp))
           clear ht k2 R E B K HK)
        | (refine inBuildZ (u8s (zs 96)) build23 wideF (by rfl) (by rfl) (by rfl) ?_)
        | (refine inStoreA row23 wideF (by rfl) (.tmp 2) (.tmp 26) (by rfl) (by rfl) w.heap.size 0 (u8s (zs 96)) (by rfl) (by rfl) zl96 (u8s_one _) ((unhide R1).there (by rw [zl96]; omega)) ?_
           have R2 := hide ((unhide R1).put (vs := u8s (zs 96)) rfl)
           have E2 := hide ((unhide E1).other (o := 0) (vs := u8s (zs 96)) (b' := w.heap.size) (by omega))
           have K2 := hide ((unhide K1).setCells (b := w.heap.size) (u8s (zs 96)) 0 (by omega))
           have H2 : Hid ((w2.setCells w.heap.size 0 (u8s (zs 96))).heap[Dd]? = some (.deferred (some []))) := by
             show _ = _
             rw [sets_ne _ _ _ _ (by intro e; subst e; have := unhide H1; have h3 := unhide R1; unfold Blk at h3; rw [this] at h3; cases h3)]
             exact unhide H1
           clear R1 E1 K1 H1
           generalize (w2.setCells w.heap.size 0 (u8s (zs 96))) = W6 at *
           have c2 := fits_cell (unhide E2) 0 (.int .i64 0) rfl
           have c3 := (unhide E2).frozen 0))
      have R3 := hide ((unhide R2).set_other (b' := w.heap.size + 1) (i := 0) (by omega) (.int .i64 4))
      have E3 := hide ((unhide E2).set (i := 0) (.int .i64 4))
      have K3 := hide ((unhide K2).setCell (p := ⟨w.heap.size + 1, 0, none⟩) (by simp) (.int .i64 4))
      have H3 : Hid ((W6.setCell ⟨w.heap.size + 1, 0, none⟩ (.int .i64 4)).heap[Dd]? = some (.deferred (some []))) := by
        refine heap_set_ne (unhide H2) ?_
        intro e; subst e; have := unhide H2; have h3 := unhide E2; unfold Blk at h3; rw [this] at h3; cases h3
      refine ⟨by simp, .inl ⟨_, _, rfl, run_takeDeferred (unhide H3), ?_⟩⟩
      refine ⟨_, res20 _ w.heap.size (w.heap.size + 1) _ _ _ rfl rfl zl96 (blk_put (unhide R3) (unhide H3) rfl) (blk_put (unhide E3) (unhide H3) rfl), ?_, ?_⟩
      · rw [unhide hB]
      · exact kept_kept (B := w.heap.size) (unhide K3) (grownBy_putObj' _ Dd (.deferred none)) (Nat.le_refl _) (fun r e => by cases e; omega)
  case stop =>
    rintro Dd c pre W hDd hpre ⟨rfl, hX⟩ hK
    have hm : 96 < (meantL L).length := Nat.lt_of_lt_of_le hX.gt hpre.length_le
    have hB : Hid (bodyL L = (zs 96, 4)) := by simp [Hid, bodyL, hm]; omega
    gi_wp2
    refine ⟨by simp, .inl ⟨_, _, rfl, run_takeDeferred hK, ?_⟩⟩
    refine ⟨_, res20 _ w.heap.size (w.heap.size + 1) _ _ _ rfl rfl zl96 (blk_put hX.r hK rfl) (blk_put hX.e hK rfl), ?_, ?_⟩
    · rw [unhide hB]
    · exact kept_kept (B := w.heap.size) hX.k (grownBy_putObj' _ Dd (.deferred none)) (Nat.le_refl _) (fun r e => by cases e; omega)

theorem body20 (L : List Int) (hL : ∀ x ∈ L, 0 ≤ x ∧ x < 256) (hl : L.length ≤ 9000000) (w : World) : Calls Tryd.prog 20 #[strV L] w fun e w' => e = .returned (.tuple #[aggV (u8s (bodyL L).1), .int .i64 (bodyL L).2]) ∧ Kept [] w w' := by
  by_cases h : 288 < L.length
  · have e : bodyL L = (zs 96, 3) := by simp [bodyL, h]
    rw [e]
    exact body_long L h hl w
  · exact callsIn_wide.1 (body_in L hL (by omega) w)

end Go.Proofs.YtnflcajidgbbbaaDoor
