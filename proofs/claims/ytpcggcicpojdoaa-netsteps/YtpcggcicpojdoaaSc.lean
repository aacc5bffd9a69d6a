/-
  Two maps of letters, entry by entry.
-/
import Derived.Test.YtpcggcicpojdoaaSa
import Derived.Maps.RangeWalk
namespace Go.Proofs.Ytpcggcicpojdoaa
open Go.RowKit

/-- Has a row of letters one that is alike? -/
def okL (L : List Ltr) (l : Ltr) : Bool := match placeOf l.num L 0 with
  | none => false
  | some x => alike l x.2
/-- Are two maps of letters the same? -/
def eqM (L M : List Ltr) : Bool := decide (L.length = M.length) && L.all (okL M)
/-- A walk over a map. -/
structure RgM (W : World) (mb r : Nat) (es : Array MapEntry) (clock : Nat) (seen : Array Nat) : Prop where
  map : W.heap[mb]? = some (.map es clock)
  it : W.heap[r]? = some (.mapIter (some mb) clock seen clock)
theorem RgM.kept {W W' : World} {mb r : Nat} {es : Array MapEntry} {clock : Nat} {seen : Array Nat} {X : List Nat} (h : RgM W mb r es clock seen) (hk : Kept X W W') (h1 : mb ∉ X) (h2 : r ∉ X) : RgM W' mb r es clock seen := ⟨hk.heap h.map h1, hk.heap h.it h2⟩
theorem ents_mem {L : List Ltr} {es : List MapEntry} (h : es.map (fun e => (e.key, e.val)) = ents L) {e : MapEntry} (he : e ∈ es) : ∃ l ∈ L, e.key = .int .i64 l.num ∧ e.val = aggV l.C := by
  have hm : (e.key, e.val) ∈ es.map (fun e => (e.key, e.val)) := List.mem_map.2 ⟨e, he, rfl⟩
  rw [h] at hm
  obtain ⟨l, hl, e'⟩ := List.mem_map.1 hm
  exact ⟨l, hl, (congrArg Prod.fst e').symm, (congrArg Prod.snd e').symm⟩
theorem mem_ents {L : List Ltr} {es : List MapEntry} (h : es.map (fun e => (e.key, e.val)) = ents L) {l : Ltr} (hl : l ∈ L) : ∃ e ∈ es, e.key = .int .i64 l.num := by
  have hm : ((.int .i64 l.num, aggV l.C) : Value × Value) ∈ ents L := List.mem_map.2 ⟨l, hl, rfl⟩
  rw [← h] at hm
  obtain ⟨e, he, e'⟩ := List.mem_map.1 hm
  exact ⟨e, he, congrArg Prod.fst e'⟩
section
variable {ops : Array Oper} {rest : List Oper} {op : Oper} {a : Act} {w : World} {Q : Exit → Act → World → Prop}
theorem wpLenM (hgd : op.guard = none) (x : Operand) (ho : op.op = .call { callee := .builtin .len, args := #[x], argTypes := #[55] }) (mb : Nat) (es : Array MapEntry) (clock : Nat) (hx : a.eval x = .map (some mb)) (hM : w.heap[mb]? = some (.map es clock))
    (h : wpList Try.prog ops Q rest (a.put op.dst (.int .i64 es.size)) w) : wpList Try.prog ops Q (op :: rest) a w :=
  wpList_plain hgd fun K hK => by
    have hr : (Builtin.len_ #[55] op.type #[.map (some mb)]).run Try.prog w = .ok (.int .i64 es.size) w := by
      unfold Builtin.len_
      simp [Sem.run_bind, run_underlying Try.map55, get_map hM, goInt]
    unfold Oper.wp execOp
    simp only [ho, resolve, invoke, builtin, Sem.run_bind, Sem.run_pure, Result.andThen_ok, List.map_toArray, List.map_cons, List.map_nil, hx, hr]
    exact hK _ _ h
theorem wpRangeM (hgd : op.guard = none) (x : Operand) (ho : op.op = .range 55 x) (mb : Nat) (es : Array MapEntry) (clock : Nat) (hx : a.eval x = .map (some mb)) (hM : w.heap[mb]? = some (.map es clock))
    (h : ∀ W r, r = w.heap.size → RgM W mb r es clock #[] → Kept [] w W → wpList Try.prog ops Q rest (a.put op.dst (.pointer (some ⟨r, 0, none⟩))) W) : wpList Try.prog ops Q (op :: rest) a w :=
  wpList_plain hgd fun K hK => by
    have hr := run_range_map (P := Try.prog) w 55 2 47 mb es clock Try.map55 hM
    unfold Oper.wp
    simp [execOp, ho, hx, hr, Result.andThen]
    exact hK _ _ (h _ _ rfl ⟨((Kept.refl [] w).alloc _).heap hM (by simp), heap_alloc_new w _⟩ ((Kept.refl _ _).alloc _))
theorem wpNextM (hgd : op.guard = none) (x : Operand) (ho : op.op = .next x false) (mb r : Nat) (es : Array MapEntry) (clock : Nat) (seen : Array Nat) (L : List Ltr) (hx : a.eval x = .pointer (some ⟨r, 0, none⟩)) (h : RgM w mb r es clock seen) (hL : es.toList.map (fun e => (e.key, e.val)) = ents L) (hs : MapKept.Stamped es clock)
    (hD : (leftOf es seen).size = 0 → wpList Try.prog ops Q rest (a.put op.dst (.tuple #[.bool false])) w)
    (hM : ∀ e l W, e ∈ (leftOf es seen).toList → l ∈ L → e.key = .int .i64 l.num → RgM W mb r es clock (seen.push e.born) → Kept [r] w W → (Instr.entry (.pointer (some ⟨r, 0, none⟩))).run Try.prog W = .ok (.tuple #[.int .i64 l.num, aggV l.C]) W → wpList Try.prog ops Q rest (a.put op.dst (.tuple #[.bool true, .int .i64 l.num, aggV l.C])) W) : wpList Try.prog ops Q (op :: rest) a w := by
  have hst := (MapKept.stamped_iff es clock).1 hs
  refine wpList_plain hgd fun K hK => ?_
  unfold Oper.wp
  rcases run_next_at (P := Try.prog) w op.type r mb clock clock seen es clock h.it h.map hst.1 (Nat.le_refl _) with ⟨h0, hrun⟩ | ⟨e, he, w1, hal, hrun⟩
  · simp [execOp, ho, hx, hrun, Result.andThen]
    exact hK _ _ (hD h0)
  · obtain ⟨hem, hes⟩ := mem_left he
    obtain ⟨l, hl, ek, ev⟩ := ents_mem hL hem
    have hne : mb ≠ r := by intro e1; have h1 := h.map; rw [e1, h.it] at h1; cases h1
    have hr1 : w1.heap[r]? = some (.mapIter (some mb) clock seen clock) := by rcases hal with rfl | rfl <;> exact h.it
    have hb1 : w1.heap[mb]? = some (.map es clock) := by rcases hal with rfl | rfl <;> exact h.map
    have hset := MapKept.heap_set (o' := .mapIter (some mb) clock (seen.push e.born) clock) hr1
    have hb' : (ChangeMaps.setBlock w1 r (.mapIter (some mb) clock (seen.push e.born) clock)).heap[mb]? = some (.map es clock) := (hset.2 mb hne).trans hb1
    have hen := run_entry_at (P := Try.prog) _ r mb clock seen es clock e hset.1 hb' hem hst.2.1
    rw [ek, ev] at hrun hen
    simp [execOp, ho, hx, hrun, Result.andThen]
    refine hK _ _ (hM e l _ he hl ek ⟨hb', hset.1⟩ ?_ hen)
    rcases hal with rfl | rfl <;> exact ⟨rfl, rfl, rfl, by simp [ChangeMaps.setBlock], fun i _ hi => hset.2 i (fun e1 => hi (by rw [e1]; simp))⟩
end
set_option maxHeartbeats 8000000 in
set_option maxRecDepth 100000 in
theorem equal39 (mb1 mb2 : Nat) (L M : List Ltr) (w : World) (h1 : MapAt w mb1 L) (h2 : MapAt w mb2 M) (hB1 : ∀ l ∈ L, Bod w l.v l.bs) (hB2 : ∀ l ∈ M, Bod w l.v l.bs) (hu : ∀ l ∈ L, ∀ l' ∈ L, l.num = l'.num → l = l') : Calls Try.prog 39 #[.map (some mb1), .map (some mb2), .func (.func 40) #[] #[]] w fun e w' => e = .returned (.bool (eqM L M)) ∧ Kept [] w w' := by
  obtain ⟨es, clock, hm1, hL, hst⟩ := h1
  have HM2 := hide h2
  obtain ⟨es2, clock2, hm2, hL2, hst2⟩ := h2
  have hs1 : es.size = L.length := by have := congrArg List.length hL; simpa [ents] using this
  have hs2 : es2.size = M.length := by have := congrArg List.length hL2; simpa [ents] using this
  have H1 := hide hm1
  have H2 := hide hm2
  have HL := hide hL
  have HST := hide hst
  have HB1 := hide hB1
  have HB2 := hide hB2
  have HU := hide hu
  clear hm1 hm2 hL hst hL2 hst2 hB1 hB2 hu
  by_cases hlen : L.length = M.length
  · have hlI : ((es.size : Int) == (es2.size : Int)) = true := by rw [hs1, hs2, hlen]; simp
    have hlD : decide ((es.size : Int) = (es2.size : Int)) = true := by rw [hs1, hs2, hlen]; simp
    go_enter Try.func39, Try.ntmps39
    go_wp2_with (
      first
      | (refine wpLenM (by rfl) (.tmp 11) (by rfl) mb1 es clock (by kernel_rfl) (unhide H1) ?_
         refine Stp.go ?_))
    constructor
    go_wp2_with (
      first
      | (refine wpLenM (by rfl) (.tmp 13) (by rfl) mb2 es2 clock2 (by kernel_rfl) (unhide H2) ?_
         refine Stp.go ?_))
    constructor
    go_wp2_with (
      first
      | (at_range
         refine wpRangeM (by rfl) (.tmp 16) (by rfl) mb1 es clock (by kernel_rfl) (unhide H1) ?_
         intro W0 r er hR0 K0
         have HR0 := hide hR0
         have HK0 := hide K0
         have HRF : Hid (w.heap.size ≤ r) := by rw [er]; exact Nat.le_refl _
         clear er hR0 K0))
    go_frame
    go_loopw [7, 8, 9, 10] (fun _ _ _ _ wr => ∃ seen, Hid (RgM wr mb1 r es clock seen) ∧ Hid (Kept [] w wr) ∧ Hid (∀ x ∈ es.toList, seen.contains x.born = true → ∃ l ∈ L, x.key = .int .i64 l.num ∧ okL M l = true)) (fun _ _ _ _ wr => wr.rangeLeft mb1 r)
    case atStart => exact ⟨#[], HR0, HK0, fun x _ h => by simp at h⟩
    case round =>
      obtain ⟨seen, HRr, HKr, HD⟩ := hrel
      go_wp2_with (
        first
        | (at_next
           refine wpNextM (by rfl) (.tmp 17) (by rfl) mb1 r es clock seen L (by kernel_rfl) (unhide HRr) (unhide HL) (unhide HST) (fun h0 => Stp.go ?_) (fun e l W he hl ek hR K1 hen => Stp.go ?_)))
      · constructor
        go_wp2_with fail
        go_ret
        refine ⟨?_, unhide HKr⟩
        rw [show eqM L M = true from by
          unfold eqM
          rw [decide_eq_true hlen, Bool.true_and, List.all_eq_true]
          intro l hl
          obtain ⟨x, hx, ex⟩ := mem_ents (unhide HL) hl
          obtain ⟨l', hl', ex', hok⟩ := unhide HD x hx (all_seen es seen h0 x hx)
          rw [ex] at ex'
          have : l = l' := unhide HU l hl l' hl' (by simpa using ex')
          rw [this]
          exact hok]
        rfl
      · constructor
        have HK : Hid (Kept [] w W) := (unhide HKr).fresh K1 (fun i hi hl => by have : w.heap.size ≤ r := unhide HRF; simp at hi; omega)
        have HR := hide hR
        have HLM := hide hl
        have HBl := hide (unhide HB1 l hl)
        have HE := hide he
        have HEK := hide ek
        have HKr1 := hide K1
        have hleft : W.rangeLeft mb1 r < wr.rangeLeft mb1 r := by
          have h1 := (unhide HRr).map
          have h2 := (unhide HRr).it
          simp only [World.rangeLeft, hR.map, hR.it, h1, h2]
          exact left_shrinks es seen e he
        have HLF := hide hleft
        clear he hl ek hR K1 hleft
        cases hp : placeOf l.num M 0 with
        | none =>
          have hok : okL M l = false := by unfold okL; rw [hp]
          obtain ⟨y, hy⟩ : ∃ y, y = zLtr := ⟨_, rfl⟩
          have hlk : lookL l.num M = y := by unfold lookL; rw [hp, hy]
          have hf : (placeOf l.num M 0).isSome = false := by rw [hp]; rfl
          have HYO : Hid (y.v.oneCell' = true) := by rw [hy]; rfl
          clear hy
          go_wp2_with (
            first
            | (refine wpAllocW zL alloc47 8 (by rfl) (by rfl) (by rfl) ?_
               intro W2 p8 e8 B8 K8
               have HF8 : Hid (w.heap.size ≤ p8) := by rw [e8]; exact (unhide HK).size
               have HB8 := hide B8
               replace HK := hide ((unhide HK).trans K8)
               replace HR := hide ((unhide HR).kept K8 (by simp) (by simp))
               clear e8 B8 K8 hen
               refine Stp.go ?_))
          constructor
          go_wp2_with (
            first
            | (refine wpStoreW row47 (by rfl) (.tmp 8) (.tmp 22) (by rfl) (by rfl) p8 zL l.C (by kernel_rfl) (by kernel_rfl) rfl (D_one (unhide HBl).one) (unhide HB8) rfl ?_
               intro W3 B3 K3
               replace HR := hide ((unhide HR).kept K3 (by have h1 := (unhide HR).map; have h2 := unhide HB8; simp; rintro rfl; unfold Blk at h2; rw [h2] at h1; cases h1) (by have h1 := (unhide HR).it; have h2 := unhide HB8; simp; rintro rfl; unfold Blk at h2; rw [h2] at h1; cases h1))
               replace HK := hide ((unhide HK).fresh K3 (fun i hi hl => by have : w.heap.size ≤ p8 := unhide HF8; simp at hi; omega))
               replace HB8 := hide B3
               clear B3 K3
               refine Stp.go ?_))
          constructor
          go_wp2_with (
            first
            | (refine wpLookL (by rfl) (.tmp 24) (.tmp 25) (by rfl) mb2 M l.num y false hlk hf (by kernel_rfl) (by kernel_rfl) ((unhide HM2).kept (unhide HK) (by simp)) ?_
               refine Stp.go ?_))
          constructor
          go_wp2_with (
            first
            | (refine wpNew row47 zL rfl alloc47 9 (by rfl) (by rfl) (by rfl) (.tmp 27) (by rfl) (by rfl) (by rfl) y.C rfl (D_one (unhide HYO)) (by kernel_rfl) (by kernel_rfl) ?_
               intro W5 p9 e9 B9 K9
               replace HB8 := hide ((unhide HB8).kept K9 (by simp))
               replace HR := hide ((unhide HR).kept K9 (by simp) (by simp))
               replace HK := hide ((unhide HK).trans K9)
               have g0 : W5.cell? ⟨p8, 0, none⟩ = some (.int .i64 l.num) := fits_cell (unhide HB8) 0 _ rfl
               have g1 : W5.cell? ⟨p8, 1, none⟩ = some (.int .i64 l.fr) := fits_cell (unhide HB8) 1 _ rfl
               have g2 : W5.cell? ⟨p8, 2, none⟩ = some (.int .i64 l.to) := fits_cell (unhide HB8) 2 _ rfl
               have g3 : W5.cell? ⟨p8, 3, none⟩ = some (l.v) := fits_cell (unhide HB8) 3 _ rfl
               have f0 : W5.cell? ⟨p9, 0, none⟩ = some (.int .i64 y.num) := fits_cell B9 0 _ rfl
               have f1 : W5.cell? ⟨p9, 1, none⟩ = some (.int .i64 y.fr) := fits_cell B9 1 _ rfl
               have f2 : W5.cell? ⟨p9, 2, none⟩ = some (.int .i64 y.to) := fits_cell B9 2 _ rfl
               have f3 : W5.cell? ⟨p9, 3, none⟩ = some (y.v) := fits_cell B9 3 _ rfl
               clear e9 B9 K9))
          go_ret
          refine ⟨?_, unhide HK⟩
          rw [show eqM L M = false from by
          unfold eqM
          rw [Bool.and_eq_false_iff]
          right
          rw [List.all_eq_false]
          exact ⟨l, unhide HLM, by rw [hok]; simp⟩]
          rfl
        | some z =>
          obtain ⟨iz, y⟩ := z
          have hlk := lookL_some hp
          have hf : (placeOf l.num M 0).isSome = true := by rw [hp]; rfl
          obtain ⟨hy1, hy2, hy3⟩ := placeOf_some hp
          have HBy := hide (unhide HB2 y (List.mem_of_getElem? hy2))
          have HYO := hide (unhide HBy).one
          clear hy1 hy2 hy3
          cases hal : alike l y with
          | false =>
            have hok : okL M l = false := by unfold okL; rw [hp]; exact hal
            go_wp2_with (
              first
              | (refine wpAllocW zL alloc47 8 (by rfl) (by rfl) (by rfl) ?_
                 intro W2 p8 e8 B8 K8
                 have HF8 : Hid (w.heap.size ≤ p8) := by rw [e8]; exact (unhide HK).size
                 have HB8 := hide B8
                 replace HK := hide ((unhide HK).trans K8)
                 replace HR := hide ((unhide HR).kept K8 (by simp) (by simp))
                 clear e8 B8 K8 hen
                 refine Stp.go ?_))
            constructor
            go_wp2_with (
              first
              | (refine wpStoreW row47 (by rfl) (.tmp 8) (.tmp 22) (by rfl) (by rfl) p8 zL l.C (by kernel_rfl) (by kernel_rfl) rfl (D_one (unhide HBl).one) (unhide HB8) rfl ?_
                 intro W3 B3 K3
                 replace HR := hide ((unhide HR).kept K3 (by have h1 := (unhide HR).map; have h2 := unhide HB8; simp; rintro rfl; unfold Blk at h2; rw [h2] at h1; cases h1) (by have h1 := (unhide HR).it; have h2 := unhide HB8; simp; rintro rfl; unfold Blk at h2; rw [h2] at h1; cases h1))
                 replace HK := hide ((unhide HK).fresh K3 (fun i hi hl => by have : w.heap.size ≤ p8 := unhide HF8; simp at hi; omega))
                 replace HB8 := hide B3
                 clear B3 K3
                 refine Stp.go ?_))
            constructor
            go_wp2_with (
              first
              | (refine wpLookL (by rfl) (.tmp 24) (.tmp 25) (by rfl) mb2 M l.num y true hlk hf (by kernel_rfl) (by kernel_rfl) ((unhide HM2).kept (unhide HK) (by simp)) ?_
                 refine Stp.go ?_))
            constructor
            go_wp2_with (
              first
              | (refine wpNew row47 zL rfl alloc47 9 (by rfl) (by rfl) (by rfl) (.tmp 27) (by rfl) (by rfl) (by rfl) y.C rfl (D_one (unhide HYO)) (by kernel_rfl) (by kernel_rfl) ?_
                 intro W5 p9 e9 B9 K9
                 replace HB8 := hide ((unhide HB8).kept K9 (by simp))
                 replace HR := hide ((unhide HR).kept K9 (by simp) (by simp))
                 replace HK := hide ((unhide HK).trans K9)
                 have g0 : W5.cell? ⟨p8, 0, none⟩ = some (.int .i64 l.num) := fits_cell (unhide HB8) 0 _ rfl
                 have g1 : W5.cell? ⟨p8, 1, none⟩ = some (.int .i64 l.fr) := fits_cell (unhide HB8) 1 _ rfl
                 have g2 : W5.cell? ⟨p8, 2, none⟩ = some (.int .i64 l.to) := fits_cell (unhide HB8) 2 _ rfl
                 have g3 : W5.cell? ⟨p8, 3, none⟩ = some (l.v) := fits_cell (unhide HB8) 3 _ rfl
                 have f0 : W5.cell? ⟨p9, 0, none⟩ = some (.int .i64 y.num) := fits_cell B9 0 _ rfl
                 have f1 : W5.cell? ⟨p9, 1, none⟩ = some (.int .i64 y.fr) := fits_cell B9 1 _ rfl
                 have f2 : W5.cell? ⟨p9, 2, none⟩ = some (.int .i64 y.to) := fits_cell B9 2 _ rfl
                 have f3 : W5.cell? ⟨p9, 3, none⟩ = some (y.v) := fits_cell B9 3 _ rfl
                 have PA : Hid (Calls Try.prog 40 #[.agg #[.int .i64 l.num, .int .i64 l.fr, .int .i64 l.to, l.v], .agg #[.int .i64 y.num, .int .i64 y.fr, .int .i64 y.to, y.v]] W5 fun e w' => e = .returned (.bool (alike l y)) ∧ Kept [] W5 w') := (alike40 l y W5 ((unhide HBl).row.kept (unhide HK)) ((unhide HBy).row.kept (unhide HK)) (unhide HBl).byte (unhide HBy).byte)
                 rw [hal] at PA
                 clear e9 B9 K9
                 refine Stp.go ?_))
            constructor
            go_wp2_with (
              first
              | (go_at_call 40
                 refine (unhide PA).mono ?_
                 rintro e6 W6 ⟨rfl, K6⟩
                 replace HR := hide ((unhide HR).kept K6 (by simp) (by simp))
                 replace HK := hide ((unhide HK).trans K6)
                 clear K6 g0 g1 g2 g3 f0 f1 f2 f3))
            go_ret
            refine ⟨?_, unhide HK⟩
            rw [show eqM L M = false from by
          unfold eqM
          rw [Bool.and_eq_false_iff]
          right
          rw [List.all_eq_false]
          exact ⟨l, unhide HLM, by rw [hok]; simp⟩]
            rfl
          | true =>
            have hok : okL M l = true := by unfold okL; rw [hp]; exact hal
            go_wp2_with (
              first
              | (refine wpAllocW zL alloc47 8 (by rfl) (by rfl) (by rfl) ?_
                 intro W2 p8 e8 B8 K8
                 have HF8 : Hid (w.heap.size ≤ p8) := by rw [e8]; exact (unhide HK).size
                 have HB8 := hide B8
                 replace HK := hide ((unhide HK).trans K8)
                 replace HR := hide ((unhide HR).kept K8 (by simp) (by simp))
                 clear e8 B8 K8 hen
                 refine Stp.go ?_))
            constructor
            go_wp2_with (
              first
              | (refine wpStoreW row47 (by rfl) (.tmp 8) (.tmp 22) (by rfl) (by rfl) p8 zL l.C (by kernel_rfl) (by kernel_rfl) rfl (D_one (unhide HBl).one) (unhide HB8) rfl ?_
                 intro W3 B3 K3
                 replace HR := hide ((unhide HR).kept K3 (by have h1 := (unhide HR).map; have h2 := unhide HB8; simp; rintro rfl; unfold Blk at h2; rw [h2] at h1; cases h1) (by have h1 := (unhide HR).it; have h2 := unhide HB8; simp; rintro rfl; unfold Blk at h2; rw [h2] at h1; cases h1))
                 replace HK := hide ((unhide HK).fresh K3 (fun i hi hl => by have : w.heap.size ≤ p8 := unhide HF8; simp at hi; omega))
                 replace HB8 := hide B3
                 clear B3 K3
                 refine Stp.go ?_))
            constructor
            go_wp2_with (
              first
              | (refine wpLookL (by rfl) (.tmp 24) (.tmp 25) (by rfl) mb2 M l.num y true hlk hf (by kernel_rfl) (by kernel_rfl) ((unhide HM2).kept (unhide HK) (by simp)) ?_
                 refine Stp.go ?_))
            constructor
            go_wp2_with (
              first
              | (refine wpNew row47 zL rfl alloc47 9 (by rfl) (by rfl) (by rfl) (.tmp 27) (by rfl) (by rfl) (by rfl) y.C rfl (D_one (unhide HYO)) (by kernel_rfl) (by kernel_rfl) ?_
                 intro W5 p9 e9 B9 K9
                 replace HB8 := hide ((unhide HB8).kept K9 (by simp))
                 replace HR := hide ((unhide HR).kept K9 (by simp) (by simp))
                 replace HK := hide ((unhide HK).trans K9)
                 have g0 : W5.cell? ⟨p8, 0, none⟩ = some (.int .i64 l.num) := fits_cell (unhide HB8) 0 _ rfl
                 have g1 : W5.cell? ⟨p8, 1, none⟩ = some (.int .i64 l.fr) := fits_cell (unhide HB8) 1 _ rfl
                 have g2 : W5.cell? ⟨p8, 2, none⟩ = some (.int .i64 l.to) := fits_cell (unhide HB8) 2 _ rfl
                 have g3 : W5.cell? ⟨p8, 3, none⟩ = some (l.v) := fits_cell (unhide HB8) 3 _ rfl
                 have f0 : W5.cell? ⟨p9, 0, none⟩ = some (.int .i64 y.num) := fits_cell B9 0 _ rfl
                 have f1 : W5.cell? ⟨p9, 1, none⟩ = some (.int .i64 y.fr) := fits_cell B9 1 _ rfl
                 have f2 : W5.cell? ⟨p9, 2, none⟩ = some (.int .i64 y.to) := fits_cell B9 2 _ rfl
                 have f3 : W5.cell? ⟨p9, 3, none⟩ = some (y.v) := fits_cell B9 3 _ rfl
                 have PA : Hid (Calls Try.prog 40 #[.agg #[.int .i64 l.num, .int .i64 l.fr, .int .i64 l.to, l.v], .agg #[.int .i64 y.num, .int .i64 y.fr, .int .i64 y.to, y.v]] W5 fun e w' => e = .returned (.bool (alike l y)) ∧ Kept [] W5 w') := (alike40 l y W5 ((unhide HBl).row.kept (unhide HK)) ((unhide HBy).row.kept (unhide HK)) (unhide HBl).byte (unhide HBy).byte)
                 rw [hal] at PA
                 clear e9 B9 K9
                 refine Stp.go ?_))
            constructor
            go_wp2_with (
              first
              | (go_at_call 40
                 refine (unhide PA).mono ?_
                 rintro e6 W6 ⟨rfl, K6⟩
                 replace HR := hide ((unhide HR).kept K6 (by simp) (by simp))
                 replace HK := hide ((unhide HK).trans K6)
                 clear K6 g0 g1 g2 g3 f0 f1 f2 f3))
            go_roundw
            case rel =>
              refine ⟨seen.push e.born, HR, HK, fun x hx hc => ?_⟩
              rw [contains_push, Bool.or_eq_true] at hc
              rcases hc with hc | hc
              · exact unhide HD x hx hc
              · have hst := (MapKept.stamped_iff es clock).1 (unhide HST)
                have : x = e := born_inj hst.2.1 hx (mem_left (unhide HE)).1 (by simpa using hc)
                rw [this]
                exact ⟨l, unhide HLM, unhide HEK, hok⟩
            case measure =>
              have h1 := unhide HLF
              have h2 := (unhide HR).map
              have h3 := (unhide HR).it
              have h4 := (unhide HRr).map
              have h5 := (unhide HRr).it
              simp only [World.rangeLeft, h2, h3, h4, h5]
              exact left_shrinks es seen e (unhide HE)
  · have hlI : ((es.size : Int) == (es2.size : Int)) = false := by rw [hs1, hs2]; simp; omega
    have hlD : decide ((es.size : Int) = (es2.size : Int)) = false := by rw [hs1, hs2]; simp; omega
    go_enter Try.func39, Try.ntmps39
    go_wp2_with (
      first
      | (refine wpLenM (by rfl) (.tmp 11) (by rfl) mb1 es clock (by kernel_rfl) (unhide H1) ?_
         refine Stp.go ?_))
    constructor
    go_wp2_with (
      first
      | (refine wpLenM (by rfl) (.tmp 13) (by rfl) mb2 es2 clock2 (by kernel_rfl) (unhide H2) ?_))
    go_ret
    refine ⟨?_, Kept.refl _ _⟩
    unfold eqM
    rw [decide_eq_false hlen, Bool.false_and]
    rfl

end Go.Proofs.Ytpcggcicpojdoaa
