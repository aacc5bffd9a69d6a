/-
  The walks of Write and Swap.
-/
import Derived.Test.YtffflafalffifaaRd
import Derived.Deep.DeepMust
namespace Go.Proofs.Ytffflafalffifaa
open Go.RowKit

theorem cell_sets_ne {w : World} {g o p i : Nat} {vs : List Value} {v : Value} (hne : p ≠ g) (h : w.cell? ⟨p, i, none⟩ = some v) : (w.setCells g o vs).cell? ⟨p, i, none⟩ = some v := by
  rw [World.cell?_of_block (w := w) (sets_ne vs w o p hne)]; exact h

/-- A device one of whose sectors is written. -/
theorem Dv.putS {w : World} {b g k : Nat} {D : Dev} {s : List Int} (h : Dv w b g D) (hk : k < D.S.length) (hs : Sec s) : Dv (w.setCells g (k * 64) (u8s s)) b g { D with S := D.S.set k s } := by
  obtain ⟨cap, h1, h2⟩ := h.lay
  refine ⟨h.ok.sector k s hs, h.ne, cap, ?_, h2.put h.ok.sec k hk s hs.1⟩
  unfold Head at h1 ⊢
  rw [sets_ne _ _ _ _ h.ne, h1]
  simp [devCells]

theorem Try.size38 : (Try.prog.info? 38).map (·.size) = some 64 := Try.info38

set_option maxHeartbeats 1000000 in
theorem write55 (ps pd pf pi b g : Nat) (D : Dev) (f i m : Nat) (hm : Hid (m = f + i)) (s : List Int) (w : World) (h : Dv w b g D) (hk : m < D.S.length) (hs : Box w ps s) (hd : w.cell? ⟨pd, 0, none⟩ = some (.pointer (some ⟨b, 0, none⟩))) (hf : w.cell? ⟨pf, 0, none⟩ = some (.int .i64 f)) (hi : w.cell? ⟨pi, 0, none⟩ = some (.int .i64 i)) (n0 : ps ≠ g) (n1 : pd ≠ g) (n2 : pf ≠ g) (n3 : pi ≠ g) :
    Calls Try.prog 55 #[.pointer (some ⟨ps, 0, none⟩), .pointer (some ⟨pd, 0, none⟩), .pointer (some ⟨pf, 0, none⟩), .pointer (some ⟨pi, 0, none⟩)] w fun e w' => e = .returned (.tuple #[]) ∧ Dv w' b g { D with S := D.S.set m s } ∧ Kept [g] w w' := by
  have hp := hide (h.drew.putS hk hs.1)
  have hsec := hs.1
  have hl1 := h.ok.s1
  have hne := h.ne
  obtain ⟨cap, hh, hbd⟩ := h.lay
  have hc0 := (hh.cells h.ok).1
  have hth := hbd.there h.ok.sec m hk
  have hrs := hs.at.2.1
  have h0 : (0 : Int) ≤ (m : Int) := by omega
  have hk' : (m : Int) < D.S.length := by omega
  have hw : IntKind.i64.wrap ((f : Int) + (i : Int)) = (m : Int) := by
    have := unhide hm
    rw [IntKind.wrap_i64]; omega
  have hu := Try.underlying38
  have hu8 : (u8s s).length = 64 := by rw [u8s_len, hsec.1]
  have hsz : (Try.prog.info? 38).map (·.size) = some (u8s s).length := by rw [hu8]; exact Try.info38
  have hone := u8s_one s
  clear hh hbd h hs
  go_enter Try.func55, Try.ntmps55
  go_wp2
  go_region_held3 (fun w' => w'.cell? ⟨pd, 0, none⟩ = some (.pointer (some ⟨b, 0, none⟩)) ∧ w'.cell? ⟨pf, 0, none⟩ = some (.int .i64 f) ∧ w'.cell? ⟨pi, 0, none⟩ = some (.int .i64 i) ∧ w'.cell? ⟨b, 0, none⟩ = some (.slice (some ⟨g, 0, none⟩) D.S.length cap) ∧ w'.rangeAt ps 0 (u8s s) ∧ w'.there g (m * 64) 64)
    (first | (go_keep_ranges; done) | (go_keep; done) | (go_split_ands; simp only [World.rangeAt_drew, World.there_drew] at *; refine ⟨cell_sets_ne n1 (by assumption), cell_sets_ne n2 (by assumption), cell_sets_ne n3 (by assumption), cell_sets_ne hne (by assumption), World.rangeAt_setCells_apart (by assumption) _ _ _ (.inl n0), World.there_setCells (by assumption) _ _ _⟩)) (fail)
  all_goals go_wp2
  exact bodyPost_end (results_none rfl _ _ _) rfl ⟨rfl, unhide hp, (Kept.refl _ _).drew.setCells _ _ (by simp)⟩

set_option maxHeartbeats 1000000 in
theorem swap57 (ps pd pf b g : Nat) (D : Dev) (m : Nat) (s : List Int) (w : World) (h : Dv w b g D) (hk : m < D.S.length) (hs : Box w ps s) (hd : w.cell? ⟨pd, 0, none⟩ = some (.pointer (some ⟨b, 0, none⟩))) (hf : w.cell? ⟨pf, 0, none⟩ = some (.int .i64 m)) (n0 : ps ≠ g) (n1 : pd ≠ g) (n2 : pf ≠ g) :
    Calls Try.prog 57 #[.pointer (some ⟨ps, 0, none⟩), .pointer (some ⟨pd, 0, none⟩), .pointer (some ⟨pf, 0, none⟩)] w fun e w' => e = .returned (.tuple #[]) ∧ Dv w' b g { D with S := D.S.set m s } ∧ Kept [g] w w' := by
  have hp := hide (h.drew.putS hk hs.1)
  have hsec := hs.1
  have hl1 := h.ok.s1
  have hne := h.ne
  obtain ⟨cap, hh, hbd⟩ := h.lay
  have hc0 := (hh.cells h.ok).1
  have hth := hbd.there h.ok.sec m hk
  have hrs := hs.at.2.1
  have h0 : (0 : Int) ≤ (m : Int) := by omega
  have hk' : (m : Int) < D.S.length := by omega
  have hu := Try.underlying38
  have hu8 : (u8s s).length = 64 := by rw [u8s_len, hsec.1]
  have hsz : (Try.prog.info? 38).map (·.size) = some (u8s s).length := by rw [hu8]; exact Try.info38
  have hone := u8s_one s
  clear hh hbd h hs
  go_enter Try.func57, Try.ntmps57
  go_wp2
  go_region_held3 (fun w' => w'.cell? ⟨pd, 0, none⟩ = some (.pointer (some ⟨b, 0, none⟩)) ∧ w'.cell? ⟨pf, 0, none⟩ = some (.int .i64 m) ∧ w'.cell? ⟨b, 0, none⟩ = some (.slice (some ⟨g, 0, none⟩) D.S.length cap) ∧ w'.rangeAt ps 0 (u8s s) ∧ w'.there g (m * 64) 64)
    (first | (go_keep_ranges; done) | (go_keep; done) | (go_split_ands; simp only [World.rangeAt_drew, World.there_drew] at *; refine ⟨cell_sets_ne n1 (by assumption), cell_sets_ne n2 (by assumption), cell_sets_ne hne (by assumption), World.rangeAt_setCells_apart (by assumption) _ _ _ (.inl n0), World.there_setCells (by assumption) _ _ _⟩)) (fail)
  all_goals go_wp2
  exact bodyPost_end (results_none rfl _ _ _) rfl ⟨rfl, unhide hp, (Kept.refl _ _).drew.setCells _ _ (by simp)⟩

theorem has_is (p : Value) (n : Nat) (first many : Int) (w : World) (h : Sz w p n) (hn : n ≤ 4096) (hf : -9223372036854775808 ≤ first ∧ first ≤ 9223372036854775807) (r : Bool) (hr : hasS n first many = r) :
    Calls Try.prog 53 #[p, .int .i64 first, .int .i64 many] w fun e w' => e = .returned (.bool r) ∧ w' = w := by subst hr; exact hasSectors53 p n first many w h hn hf
theorem ref_is (b g : Nat) (D : Dev) (x ep : Int) (may : Bool) (w : World) (h : Dv w b g D) (r : Int) (hr : D.ref x ep may = r) : Calls Try.prog 52 #[.pointer (some ⟨b, 0, none⟩), .int .i64 x, .int .i64 ep, .bool may] w fun e w' => e = .returned (.int .i64 r) ∧ w' = w := by
  subst hr; exact refusal52 b g D x ep may w h

theorem wpLoadS' {ops : Array Oper} {rest : List Oper} {op : Oper} {a : Act} {w : World} {Q : Exit → Act → World → Prop} (hgd : op.guard = none) (x : Operand) (ho : op.op = .load 38 x)
    (b o : Nat) (hx : a.eval x = .pointer (some ⟨b, o, none⟩)) (s : List Int) (hs : Sec s) (hA : w.rangeAt b o (u8s s)) (h : wpList Try.prog ops Q rest (a.put op.dst (secV s)) w) : wpList Try.prog ops Q (op :: rest) a w :=
  wpList_load_mid (P := Try.prog) hgd 38 x ho b o hx (u8s s) _ hA Try.underlying38 rfl (by rw [u8s_len, hs.1]; exact Try.info38) h

theorem Kept.drewN {X : List Nat} {a w : World} (h : Kept X a w) (n : Nat) : Kept X a (w.drewN n) := ⟨h.os, h.tape, h.output, h.size, h.block⟩
theorem Dv.drewN {w : World} {b g : Nat} {D : Dev} (h : Dv w b g D) (n : Nat) : Dv (w.drewN n) b g D := h.kept (X := []) ((Kept.refl _ _).drewN n) (by simp) (by simp)

/-- A slice of sectors. -/
structure Secs (w : World) (ao : Option Addr) (n c : Nat) (L : List (List Int)) : Prop where
  len : L.length = n
  sec : ∀ s ∈ L, Sec s
  cap : n ≤ c
  lies : L ≠ [] → ∃ h off, ao = some ⟨h, off, none⟩ ∧ ∀ i (hi : i < L.length), w.rangeAt h (off + i * 64) (u8s L[i])

/-- The block that a slice of sectors lies in is none of X. -/
def Away (ao : Option Addr) (X : List Nat) : Prop := ∀ h off, ao = some ⟨h, off, none⟩ → h ∉ X

theorem Secs.kept {w w' : World} {ao : Option Addr} {n c : Nat} {L : List (List Int)} {X : List Nat} (h : Secs w ao n c L) (hk : Kept X w w') (ha : Away ao X) : Secs w' ao n c L := by
  refine ⟨h.len, h.sec, h.cap, fun hne => ?_⟩
  obtain ⟨b, off, e, hr⟩ := h.lies hne
  exact ⟨b, off, e, fun i hi j v hj => hk.cell (hr i hi j v hj) (ha b off e)⟩

/-- Sectors that are written, one behind the other. -/
def Dev.puts (D : Dev) (k : Nat) : List (List Int) → Dev
  | [] => D
  | s :: L => if (D.step (D.S.set k s) D.E).2 then ((D.step (D.S.set k s) D.E).1).puts (k + 1) L else (D.step (D.S.set k s) D.E).1

/-- What Write tells, and the device behind it. -/
def Dev.write (D : Dev) (x ep f : Int) (L : List (List Int)) : Int × Dev :=
  if D.ref x ep (hasS D.S.length f L.length) = 0 then (0, D.puts f.toNat L) else (D.ref x ep (hasS D.S.length f L.length), D)

theorem step_len (D : Dev) (k : Nat) (s : List Int) : (D.step (D.S.set k s) D.E).1.S.length = D.S.length := by unfold Dev.step; split <;> simp

set_option maxHeartbeats 2000000 in
set_option maxRecDepth 100000 in
theorem write22 (b g : Nat) (D : Dev) (x ep f : Int) (ao : Option Addr) (n c : Nat) (L : List (List Int)) (w : World) (h : Dv w b g D) (hf : -9223372036854775808 ≤ f ∧ f ≤ 9223372036854775807) (hn : n ≤ 9223372036854775807) (hL : Secs w ao n c L) (hA : Away ao [b, g]) :
    Calls Try.prog 22 #[.pointer (some ⟨b, 0, none⟩), .int .i64 x, .int .i64 ep, .int .i64 f, .slice ao n c] w fun e w' => e = .returned (.int .i64 (D.write x ep f L).1) ∧ Dv w' b g (D.write x ep f L).2 ∧ Kept [b, g] w w' := by
  have hlt := h.lt
  have hk2 : Kept [] w ((w.alloc (.cells #[.pointer (some ⟨b, 0, none⟩)] 24)).alloc (.cells #[.int .i64 f] 3)) := ((Kept.refl _ _).alloc _).alloc _
  have hD := h.kept hk2 (by simp) (by simp)
  have hL2 := hL.kept hk2 (by intro _ _ _; simp)
  have hc1 : ((w.alloc (.cells #[.pointer (some ⟨b, 0, none⟩)] 24)).alloc (.cells #[.int .i64 f] 3)).cell? ⟨w.heap.size, 0, none⟩ = some (.pointer (some ⟨b, 0, none⟩)) := box_at (heap_alloc_old (heap_new rfl))
  have hc2 : ((w.alloc (.cells #[.pointer (some ⟨b, 0, none⟩)] 24)).alloc (.cells #[.int .i64 f] 3)).cell? ⟨w.heap.size + 1, 0, none⟩ = some (.int .i64 f) := box_at (heap_new (by simp))
  have hsz : w.heap.size + 2 ≤ ((w.alloc (.cells #[.pointer (some ⟨b, 0, none⟩)] 24)).alloc (.cells #[.int .i64 f] 3)).heap.size := by simp
  have hlen := hL.len
  by_cases hz : D.ref x ep (hasS D.S.length f n) = 0
  · have hU : D.write x ep f L = (0, D.puts f.toNat L) := by simp [Dev.write, hlen, hz]
    rw [hU]
    have hS := ref_may hz
    have hff : 0 ≤ f ∧ (n : Int) ≤ D.S.length - f := by simpa [hasS] using hS
    obtain ⟨F, rfl⟩ := Int.eq_ofNat_of_zero_le hff.1
    simp only [Int.toNat_natCast]
    clear hU
    rw [hS] at hz
    have HZ := hide hz
    have HS := hide hS
    clear hz hS
    go_enter Try.func22, Try.ntmps22
    go_wp2
    generalize (w.alloc (.cells #[.pointer (some ⟨b, 0, none⟩)] 24)).alloc (.cells #[.int .i64 F] 3) = W at *
    go_step3
    go_wp2
    go_quiet ((first | (go_at_call 53; exact Calls.quiet_of_same (has_is _ _ _ _ _ (hD.drewN _).sz hD.ok.s1 hf true (unhide HS))) | (go_at_call 52; go_must (exact Calls.quiet_of_same (ref_is _ _ _ _ _ _ _ (hD.drewN _) 0 (unhide HZ))))))
    go_wp2
    go_step3
    go_wp2
    have hkW : Hid (Kept [b, g] W (W.drewN nq)) := (Kept.refl _ _).drewN _
    have hDW : Hid (Dv (W.drewN nq) b g D) := hD.drewN _
    go_loopw [28] (fun i wr => ∃ (k : Nat) (Dk : Dev), k ≤ n ∧ i = .int .i64 k ∧ Dv wr b g Dk ∧ Dk.S.length = D.S.length ∧ Hid (Dk.puts (F + k) (L.drop k) = D.puts F L) ∧ Hid (Kept [b, g] W wr)) (fun i _ => n - (intOf i).toNat)
    case atStart => exact ⟨0, D, by omega, rfl, unhide hDW, rfl, rfl, hkW⟩
    case round =>
      obtain ⟨k, Dk, hkn, rfl, hDk, hSk, hPk, hKk⟩ := hrel
      have hb1 := (unhide hKk).cell hc1 (by simp; omega)
      have hb2 := (unhide hKk).cell hc2 (by simp; omega)
      by_cases hlt' : k < n
      · obtain ⟨s, hs⟩ : ∃ s, L[k]? = some s := ⟨_, List.getElem?_eq_getElem (by omega)⟩
        have hsec : Sec s := hL2.sec s (List.mem_of_getElem? hs)
        obtain ⟨hb, off, rfl, hr⟩ := hL2.lies (by intro e; simp [e] at hlen; omega)
        have hrk := hr k (by omega)
        have hgs : L[k]'(by omega) = s := by have := List.getElem?_eq_getElem (l := L) (i := k) (by omega); rw [this] at hs; simpa using hs
        rw [hgs] at hrk
        have hrr : wr.rangeAt hb (off + k * 64) (u8s s) := fun j v hj => (unhide hKk).cell (hrk j v hj) (hA hb off rfl)
        have HR := hide hrr
        have hBX : Hid (Box ((wr.alloc (Obj.cells #[.int .i64 k] 3)).alloc (Obj.cells (u8s nought).toArray 38)) (wr.heap.size + 1) nought) := ⟨nought_sec, heap_new (by simp)⟩
        have hKX : Hid (Kept [] wr ((wr.alloc (Obj.cells #[.int .i64 k] 3)).alloc (Obj.cells (u8s nought).toArray 38))) := ((Kept.refl _ _).alloc _).alloc _
        have hCX : Hid (((wr.alloc (Obj.cells #[.int .i64 k] 3)).alloc (Obj.cells (u8s nought).toArray 38)).cell? ⟨wr.heap.size, 0, none⟩ = some (.int .i64 k)) := box_at (heap_alloc_old (heap_new rfl))
        have hwr := (unhide hKk).size
        have hKY : Hid (Kept [] wr (((wr.alloc (Obj.cells #[.int .i64 k] 3)).alloc (Obj.cells (u8s nought).toArray 38)).setCells (wr.heap.size + 1) 0 (u8s s))) := (unhide hKX).setCells _ _ (by omega)
        have hb3 : (((wr.alloc (Obj.cells #[.int .i64 k] 3)).alloc (Obj.cells (u8s nought).toArray 38)).setCells (wr.heap.size + 1) 0 (u8s s)).cell? ⟨w.heap.size, 0, none⟩ = some (.pointer (some ⟨b, 0, none⟩)) := (unhide hKY).cell hb1 (by simp)
        have hDo : Hid (Calls Try.prog 54 #[.pointer (some ⟨b, 0, none⟩), .func (.func 55) #[] #[.pointer (some ⟨wr.heap.size + 1, 0, none⟩), .pointer (some ⟨w.heap.size, 0, none⟩), .pointer (some ⟨w.heap.size + 1, 0, none⟩), .pointer (some ⟨wr.heap.size, 0, none⟩)]] (((wr.alloc (Obj.cells #[.int .i64 k] 3)).alloc (Obj.cells (u8s nought).toArray 38)).setCells (wr.heap.size + 1) 0 (u8s s)) fun e w' => e = .returned (.bool (Dk.step (Dk.S.set (F + k) s) Dk.E).2) ∧ Dv w' b g (Dk.step (Dk.S.set (F + k) s) Dk.E).1 ∧ Kept [b, g] wr w') := by
          have hlt2 := hDk.lt
          have hDY := hDk.kept (unhide hKY) (by simp) (by simp)
          refine (do54_55 b g Dk (Dk.S.set (F + k) s) Dk.E _ _ hDY ?_).mono ?_
          · intro D1 w1 hS1 hE1 hN1 h1 k1
            refine (write55 (wr.heap.size + 1) w.heap.size (w.heap.size + 1) wr.heap.size b g D1 F k (F + k) rfl s w1 h1 (by rw [hS1, hSk]; omega) (((unhide hBX).put hsec).kept k1 (by simp; omega)) (k1.cell hb3 (by simp; omega)) (k1.cell ((unhide hKY).cell hb2 (by simp)) (by simp; omega)) (k1.cell (cell_sets_ne (by omega) (unhide hCX)) (by simp; omega)) (by omega) (by omega) (by omega) (by omega)).mono ?_
            rintro e w2 ⟨rfl, h2, k2⟩
            refine ⟨rfl, ?_, k2.mono (by simp)⟩
            rw [← hS1, ← hE1]
            exact h2
          · rintro e w2 ⟨rfl, h2, k2⟩
            exact ⟨rfl, h2, ((unhide hKY).mono (by simp)).trans k2⟩
        clear hr hrk hrr
        have hdrop : L.drop k = s :: L.drop (k + 1) := by rw [List.drop_eq_getElem_cons (by omega), hgs]
        have hPs := unhide hPk
        rw [hdrop, Dev.puts] at hPs
        cases hst : (Dk.step (Dk.S.set (F + k) s) Dk.E).2 with
        | true =>
          rw [hst] at hDo
          rw [hst, if_pos rfl] at hPs
          have HPs := hide hPs
          have hln := step_len Dk (F + k) s
          clear hPs hPk hdrop hst hgs
          go_wp2_with (first | (refine wpLoadS' rfl (.tmp 31) rfl hb (off + k * 64) rfl s hsec (unhide HR) ?_) | (refine wpAllocS rfl rfl ?_) | (refine wpStoreS rfl (.tmp 13) (.tmp 32) rfl (wr.heap.size + 1) 0 s rfl rfl hsec (unhide hBX).at.2.2 ?_) | (go_at_call 54; go_must (refine (unhide hDo).mono ?_; rintro e w1 ⟨rfl, hd1, hk1⟩)))
          go_roundw
          case rel => exact ⟨k + 1, _, by omega, by go_num, hd1, by rw [hln]; exact hSk, by rw [← Nat.add_assoc]; exact HPs, (unhide hKk).trans hk1⟩
          case measure => simp [intOf]; omega
        | false =>
          rw [hst] at hDo
          rw [hst, if_neg (by simp)] at hPs
          have HPs := hide hPs
          clear hPs hPk hdrop hst hgs
          go_wp2_with (first | (refine wpLoadS' rfl (.tmp 31) rfl hb (off + k * 64) rfl s hsec (unhide HR) ?_) | (refine wpAllocS rfl rfl ?_) | (refine wpStoreS rfl (.tmp 13) (.tmp 32) rfl (wr.heap.size + 1) 0 s rfl rfl hsec (unhide hBX).at.2.2 ?_) | (go_at_call 54; go_must (refine (unhide hDo).mono ?_; rintro e w1 ⟨rfl, hd1, hk1⟩)))
          rw [Exit.noGoto_ret]
          go_ret
          exact ⟨rfl, (unhide HPs) ▸ hd1, ((hk2.mono (by simp)).trans (unhide hKk)).trans hk1⟩
      · go_wp2
        rw [Exit.noGoto_ret]
        go_ret
        have : L.drop k = [] := List.drop_eq_nil_of_le (by omega)
        have hp := unhide hPk
        rw [this] at hp
        simp only [Dev.puts] at hp
        exact ⟨rfl, hp ▸ hDk, ((hk2.mono (by simp)).trans (unhide hKk))⟩
  · have hU : D.write x ep f L = (D.ref x ep (hasS D.S.length f n), D) := by simp [Dev.write, hlen, hz]
    rw [hU]
    have hne : (D.ref x ep (hasS D.S.length f n) != 0) = true := by simpa using hz
    clear hU
    go_enter Try.func22, Try.ntmps22
    go_wp2
    generalize (w.alloc (.cells #[.pointer (some ⟨b, 0, none⟩)] 24)).alloc (.cells #[.int .i64 f] 3) = W at *
    go_step3
    go_wp2
    go_quiet ((first | (go_at_call 53; exact Calls.quiet_of_same (hasSectors53 _ _ _ _ _ (hD.drewN _).sz hD.ok.s1 hf)) | (go_at_call 52; go_must (exact Calls.quiet_of_same (refusal52 _ _ _ _ _ _ _ (hD.drewN _))))))
    go_wp2
    try rw [Exit.noGoto_ret]
    go_ret
    exact ⟨rfl, hD.drewN _, (hk2.mono (by simp)).drewN _⟩

end Go.Proofs.Ytffflafalffifaa
