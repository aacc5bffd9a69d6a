/-
  The walk of New.
-/
import Derived.Test.YtmeajhdhiebkdaaDoorDvRd
import Derived.Deep.DeepMust
import Derived.Laws.MakeOwn

/-
  The walks of Write and Swap.
-/
namespace Go.Proofs.YtmeajhdhiebkdaaDoor.Dv
open Go.RowKit

theorem cell_sets_ne {w : World} {g o p i : Nat} {vs : List Value} {v : Value} (hne : p ≠ g) (h : w.cell? ⟨p, i, none⟩ = some v) : (w.setCells g o vs).cell? ⟨p, i, none⟩ = some v := by
  rw [World.cell?_of_block (w := w) (sets_ne vs w o p hne)]; exact h

/-- A device one of whose sectors is written. -/
theorem Dv.putS {w : World} {b g k : Nat} {D : Dev} {s : List Int} (h : Dv w b g D) (hk : k < D.S.length) (hs : Sec s) : Dv (w.setCells g (k * 64) (u8s s)) b g { D with S := D.S.set k s } := by
  obtain ⟨cap, h1, h2⟩ := h.lay
  refine ⟨h.ok.sector k s hs, h.ne, cap, ?_, h2.put h.ok.sec k hk s hs.1⟩
  unfold Head at h1 ⊢
  rw [sets_ne _ _ _ _ h.ne, h1]
  simp [devCells]

theorem Tryd.size38 : (Tryd.prog.info? 80).map (·.size) = some 64 := Tryd.info38

set_option maxHeartbeats 1000000 in
set_option maxRecDepth 100000 in
theorem write55 (ps pd pf pi b g : Nat) (D : Dev) (f i m : Nat) (hm : Hid (m = f + i)) (s : List Int) (w : World) (h : Dv w b g D) (hk : m < D.S.length) (hs : Box w ps s) (hd : w.cell? ⟨pd, 0, none⟩ = some (.pointer (some ⟨b, 0, none⟩))) (hf : w.cell? ⟨pf, 0, none⟩ = some (.int .i64 f)) (hi : w.cell? ⟨pi, 0, none⟩ = some (.int .i64 i)) (n0 : ps ≠ g) (n1 : pd ≠ g) (n2 : pf ≠ g) (n3 : pi ≠ g) :
    Calls Tryd.prog 85 #[.pointer (some ⟨ps, 0, none⟩), .pointer (some ⟨pd, 0, none⟩), .pointer (some ⟨pf, 0, none⟩), .pointer (some ⟨pi, 0, none⟩)] w fun e w' => e = .returned (.tuple #[]) ∧ Dv w' b g { D with S := D.S.set m s } ∧ Kept [g] w w' := by
  have hp := hide (h.drew.putS hk hs.1)
  have hsec := hs.1
  have hl1 := h.ok.s1
  have hne := h.ne
  obtain ⟨cap, hh, hbd⟩ := h.lay
  have hc0 := (hh.cells h.ok).1
  have hth := hbd.there h.ok.sec m hk
  have hrs := hs.at.2.1
  have h0 : (0 : Int) ≤ (m : Int) := by omega
  have hk' : (m : Int) < D.S.length := by omega
  have hw : IntKind.i64.wrap ((f : Int) + (i : Int)) = (m : Int) := by
    have := unhide hm
    rw [IntKind.wrap_i64]; omega
  have hu := Tryd.underlying80
  have hu8 : (u8s s).length = 64 := by rw [u8s_len, hsec.1]
  have hsz : (Tryd.prog.info? 80).map (·.size) = some (u8s s).length := by rw [hu8]; exact Tryd.info38
  have hone := u8s_one s
  clear hh hbd h hs
  go_enter Tryd.func85, Tryd.ntmps85
  go_wp2
  go_region_held3 (fun w' => w'.cell? ⟨pd, 0, none⟩ = some (.pointer (some ⟨b, 0, none⟩)) ∧ w'.cell? ⟨pf, 0, none⟩ = some (.int .i64 f) ∧ w'.cell? ⟨pi, 0, none⟩ = some (.int .i64 i) ∧ w'.cell? ⟨b, 0, none⟩ = some (.slice (some ⟨g, 0, none⟩) D.S.length cap) ∧ w'.rangeAt ps 0 (u8s s) ∧ w'.there g (m * 64) 64)
    (first | (go_keep_ranges; done) | (go_keep; done) | (go_split_ands; simp only [World.rangeAt_drew, World.there_drew] at *; refine ⟨cell_sets_ne n1 (by assumption), cell_sets_ne n2 (by assumption), cell_sets_ne n3 (by assumption), cell_sets_ne hne (by assumption), World.rangeAt_setCells_apart (by assumption) _ _ _ (.inl n0), World.there_setCells (by assumption) _ _ _⟩)) (fail)
  all_goals go_wp2
  exact bodyPost_end (results_none rfl _ _ _) rfl ⟨rfl, unhide hp, (Kept.refl _ _).drew.setCells _ _ (by simp)⟩

theorem has_is (p : Value) (n : Nat) (first many : Int) (w : World) (h : Sz w p n) (hn : n ≤ 4096) (hf : -9223372036854775808 ≤ first ∧ first ≤ 9223372036854775807) (r : Bool) (hr : hasS n first many = r) :
    Calls Tryd.prog 80 #[p, .int .i64 first, .int .i64 many] w fun e w' => e = .returned (.bool r) ∧ w' = w := by subst hr; exact hasSectors53 p n first many w h hn hf
theorem ref_is (b g : Nat) (D : Dev) (x ep : Int) (may : Bool) (w : World) (h : Dv w b g D) (r : Int) (hr : D.ref x ep may = r) : Calls Tryd.prog 84 #[.pointer (some ⟨b, 0, none⟩), .int .i64 x, .int .i64 ep, .bool may] w fun e w' => e = .returned (.int .i64 r) ∧ w' = w := by
  subst hr; exact refusal52 b g D x ep may w h

theorem wpLoadS' {ops : Array Oper} {rest : List Oper} {op : Oper} {a : Act} {w : World} {Q : Exit → Act → World → Prop} (hgd : op.guard = none) (x : Operand) (ho : op.op = .load 80 x)
    (b o : Nat) (hx : a.eval x = .pointer (some ⟨b, o, none⟩)) (s : List Int) (hs : Sec s) (hA : w.rangeAt b o (u8s s)) (h : wpList Tryd.prog ops Q rest (a.put op.dst (secV s)) w) : wpList Tryd.prog ops Q (op :: rest) a w :=
  wpList_load_mid (P := Tryd.prog) hgd 80 x ho b o hx (u8s s) _ hA Tryd.underlying80 rfl (by rw [u8s_len, hs.1]; exact Tryd.info38) h

theorem _root_.Go.Proofs.YtmeajhdhiebkdaaDoor.Kept.drewN {X : List Nat} {a w : World} (h : Kept X a w) (n : Nat) : Kept X a (w.drewN n) := ⟨h.os, h.tape, h.output, h.size, h.block⟩
theorem Dv.drewN {w : World} {b g : Nat} {D : Dev} (h : Dv w b g D) (n : Nat) : Dv (w.drewN n) b g D := h.kept (X := []) ((Kept.refl _ _).drewN n) (by simp) (by simp)

/-- A slice of sectors. -/
structure Secs (w : World) (ao : Option Addr) (n c : Nat) (L : List (List Int)) : Prop where
  len : L.length = n
  sec : ∀ s ∈ L, Sec s
  cap : n ≤ c
  lies : L ≠ [] → ∃ h off, ao = some ⟨h, off, none⟩ ∧ ∀ i (hi : i < L.length), w.rangeAt h (off + i * 64) (u8s L[i])

/-- The block that a slice of sectors lies in is none of X. -/
def Away (ao : Option Addr) (X : List Nat) : Prop := ∀ h off, ao = some ⟨h, off, none⟩ → h ∉ X

theorem Secs.kept {w w' : World} {ao : Option Addr} {n c : Nat} {L : List (List Int)} {X : List Nat} (h : Secs w ao n c L) (hk : Kept X w w') (ha : Away ao X) : Secs w' ao n c L := by
  refine ⟨h.len, h.sec, h.cap, fun hne => ?_⟩
  obtain ⟨b, off, e, hr⟩ := h.lies hne
  exact ⟨b, off, e, fun i hi j v hj => hk.cell (hr i hi j v hj) (ha b off e)⟩

/-- Sectors that are written, one behind the other. -/
def Dev.puts (D : Dev) (k : Nat) : List (List Int) → Dev
  | [] => D
  | s :: L => if (D.step (D.S.set k s) D.E).2 then ((D.step (D.S.set k s) D.E).1).puts (k + 1) L else (D.step (D.S.set k s) D.E).1

/-- What Write tells, and the device behind it. -/
def Dev.write (D : Dev) (x ep f : Int) (L : List (List Int)) : Int × Dev :=
  if D.ref x ep (hasS D.S.length f L.length) = 0 then (0, D.puts f.toNat L) else (D.ref x ep (hasS D.S.length f L.length), D)

theorem step_len (D : Dev) (k : Nat) (s : List Int) : (D.step (D.S.set k s) D.E).1.S.length = D.S.length := by unfold Dev.step; split <;> simp

set_option maxHeartbeats 2000000 in
set_option maxRecDepth 100000 in
theorem write22 (b g : Nat) (D : Dev) (x ep f : Int) (ao : Option Addr) (n c : Nat) (L : List (List Int)) (w : World) (h : Dv w b g D) (hf : -9223372036854775808 ≤ f ∧ f ≤ 9223372036854775807) (hn : n ≤ 9223372036854775807) (hL : Secs w ao n c L) (hA : Away ao [b, g]) :
    Calls Tryd.prog 63 #[.pointer (some ⟨b, 0, none⟩), .int .i64 x, .int .i64 ep, .int .i64 f, .slice ao n c] w fun e w' => e = .returned (.int .i64 (D.write x ep f L).1) ∧ Dv w' b g (D.write x ep f L).2 ∧ Kept [b, g] w w' := by
  have hlt := h.lt
  have hk2 : Kept [] w ((w.alloc (.cells #[.pointer (some ⟨b, 0, none⟩)] 31)).alloc (.cells #[.int .i64 f] 3)) := ((Kept.refl _ _).alloc _).alloc _
  have hD := h.kept hk2 (by simp) (by simp)
  have hL2 := hL.kept hk2 (by intro _ _ _; simp)
  have hc1 : ((w.alloc (.cells #[.pointer (some ⟨b, 0, none⟩)] 31)).alloc (.cells #[.int .i64 f] 3)).cell? ⟨w.heap.size, 0, none⟩ = some (.pointer (some ⟨b, 0, none⟩)) := box_at (heap_alloc_old (heap_new rfl))
  have hc2 : ((w.alloc (.cells #[.pointer (some ⟨b, 0, none⟩)] 31)).alloc (.cells #[.int .i64 f] 3)).cell? ⟨w.heap.size + 1, 0, none⟩ = some (.int .i64 f) := box_at (heap_new (by simp))
  have hsz : w.heap.size + 2 ≤ ((w.alloc (.cells #[.pointer (some ⟨b, 0, none⟩)] 31)).alloc (.cells #[.int .i64 f] 3)).heap.size := by simp
  have hlen := hL.len
  by_cases hz : D.ref x ep (hasS D.S.length f n) = 0
  · have hU : D.write x ep f L = (0, D.puts f.toNat L) := by simp [Dev.write, hlen, hz]
    rw [hU]
    have hS := ref_may hz
    have hff : 0 ≤ f ∧ (n : Int) ≤ D.S.length - f := by simpa [hasS] using hS
    obtain ⟨F, rfl⟩ := Int.eq_ofNat_of_zero_le hff.1
    simp only [Int.toNat_natCast]
    clear hU
    rw [hS] at hz
    have HZ := hide hz
    have HS := hide hS
    clear hz hS
    go_enter Tryd.func63, Tryd.ntmps63
    go_wp2
    generalize (w.alloc (.cells #[.pointer (some ⟨b, 0, none⟩)] 31)).alloc (.cells #[.int .i64 F] 3) = W at *
    go_step3
    go_wp2
    go_quiet ((first | (go_at_call 80; exact Calls.quiet_of_same (has_is _ _ _ _ _ (hD.drewN _).sz hD.ok.s1 hf true (unhide HS))) | (go_at_call 84; go_must (exact Calls.quiet_of_same (ref_is _ _ _ _ _ _ _ (hD.drewN _) 0 (unhide HZ))))))
    go_wp2
    go_step3
    go_wp2
    have hkW : Hid (Kept [b, g] W (W.drewN nq)) := (Kept.refl _ _).drewN _
    have hDW : Hid (Dv (W.drewN nq) b g D) := hD.drewN _
    go_loopw [28] (fun i wr => ∃ (k : Nat) (Dk : Dev), k ≤ n ∧ i = .int .i64 k ∧ Dv wr b g Dk ∧ Dk.S.length = D.S.length ∧ Hid (Dk.puts (F + k) (L.drop k) = D.puts F L) ∧ Hid (Kept [b, g] W wr)) (fun i _ => n - (intOf i).toNat)
    case atStart => exact ⟨0, D, by omega, rfl, unhide hDW, rfl, rfl, hkW⟩
    case round =>
      obtain ⟨k, Dk, hkn, rfl, hDk, hSk, hPk, hKk⟩ := hrel
      have hb1 := (unhide hKk).cell hc1 (by simp; omega)
      have hb2 := (unhide hKk).cell hc2 (by simp; omega)
      by_cases hlt' : k < n
      · obtain ⟨s, hs⟩ : ∃ s, L[k]? = some s := ⟨_, List.getElem?_eq_getElem (by omega)⟩
        have hsec : Sec s := hL2.sec s (List.mem_of_getElem? hs)
        obtain ⟨hb, off, rfl, hr⟩ := hL2.lies (by intro e; simp [e] at hlen; omega)
        have hrk := hr k (by omega)
        have hgs : L[k]'(by omega) = s := by have := List.getElem?_eq_getElem (l := L) (i := k) (by omega); rw [this] at hs; simpa using hs
        rw [hgs] at hrk
        have hrr : wr.rangeAt hb (off + k * 64) (u8s s) := fun j v hj => (unhide hKk).cell (hrk j v hj) (hA hb off rfl)
        have HR := hide hrr
        have hBX : Hid (Box ((wr.alloc (Obj.cells #[.int .i64 k] 3)).alloc (Obj.cells (u8s nought).toArray 80)) (wr.heap.size + 1) nought) := ⟨nought_sec, heap_new (by simp)⟩
        have hKX : Hid (Kept [] wr ((wr.alloc (Obj.cells #[.int .i64 k] 3)).alloc (Obj.cells (u8s nought).toArray 80))) := ((Kept.refl _ _).alloc _).alloc _
        have hCX : Hid (((wr.alloc (Obj.cells #[.int .i64 k] 3)).alloc (Obj.cells (u8s nought).toArray 80)).cell? ⟨wr.heap.size, 0, none⟩ = some (.int .i64 k)) := box_at (heap_alloc_old (heap_new rfl))
        have hwr := (unhide hKk).size
        have hKY : Hid (Kept [] wr (((wr.alloc (Obj.cells #[.int .i64 k] 3)).alloc (Obj.cells (u8s nought).toArray 80)).setCells (wr.heap.size + 1) 0 (u8s s))) := (unhide hKX).setCells _ _ (by omega)
        have hb3 : (((wr.alloc (Obj.cells #[.int .i64 k] 3)).alloc (Obj.cells (u8s nought).toArray 80)).setCells (wr.heap.size + 1) 0 (u8s s)).cell? ⟨w.heap.size, 0, none⟩ = some (.pointer (some ⟨b, 0, none⟩)) := (unhide hKY).cell hb1 (by simp)
        have hDo : Hid (Calls Tryd.prog 72 #[.pointer (some ⟨b, 0, none⟩), .func (.func 85) #[] #[.pointer (some ⟨wr.heap.size + 1, 0, none⟩), .pointer (some ⟨w.heap.size, 0, none⟩), .pointer (some ⟨w.heap.size + 1, 0, none⟩), .pointer (some ⟨wr.heap.size, 0, none⟩)]] (((wr.alloc (Obj.cells #[.int .i64 k] 3)).alloc (Obj.cells (u8s nought).toArray 80)).setCells (wr.heap.size + 1) 0 (u8s s)) fun e w' => e = .returned (.bool (Dk.step (Dk.S.set (F + k) s) Dk.E).2) ∧ Dv w' b g (Dk.step (Dk.S.set (F + k) s) Dk.E).1 ∧ Kept [b, g] wr w') := by
          have hlt2 := hDk.lt
          have hDY := hDk.kept (unhide hKY) (by simp) (by simp)
          refine (do54_55 b g Dk (Dk.S.set (F + k) s) Dk.E _ _ hDY ?_).mono ?_
          · intro D1 w1 hS1 hE1 hN1 h1 k1
            refine (write55 (wr.heap.size + 1) w.heap.size (w.heap.size + 1) wr.heap.size b g D1 F k (F + k) rfl s w1 h1 (by rw [hS1, hSk]; omega) (((unhide hBX).put hsec).kept k1 (by simp; omega)) (k1.cell hb3 (by simp; omega)) (k1.cell ((unhide hKY).cell hb2 (by simp)) (by simp; omega)) (k1.cell (cell_sets_ne (by omega) (unhide hCX)) (by simp; omega)) (by omega) (by omega) (by omega) (by omega)).mono ?_
            rintro e w2 ⟨rfl, h2, k2⟩
            refine ⟨rfl, ?_, k2.mono (by simp)⟩
            rw [← hS1, ← hE1]
            exact h2
          · rintro e w2 ⟨rfl, h2, k2⟩
            exact ⟨rfl, h2, ((unhide hKY).mono (by simp)).trans k2⟩
        clear hr hrk hrr
        have hdrop : L.drop k = s :: L.drop (k + 1) := by rw [List.drop_eq_getElem_cons (by omega), hgs]
        have hPs := unhide hPk
        rw [hdrop, Dev.puts] at hPs
        cases hst : (Dk.step (Dk.S.set (F + k) s) Dk.E).2 with
        | true =>
          rw [hst] at hDo
          rw [hst, if_pos rfl] at hPs
          have HPs := hide hPs
          have hln := step_len Dk (F + k) s
          clear hPs hPk hdrop hst hgs
          go_wp2_with (first | (refine wpLoadS' rfl (.tmp 31) rfl hb (off + k * 64) rfl s hsec (unhide HR) ?_) | (refine wpAllocS rfl rfl ?_) | (refine wpStoreS rfl (.tmp 13) (.tmp 32) rfl (wr.heap.size + 1) 0 s rfl rfl hsec (unhide hBX).at.2.2 ?_) | (go_at_call 72; go_must (refine (unhide hDo).mono ?_; rintro e w1 ⟨rfl, hd1, hk1⟩)))
          go_roundw
          case rel => exact ⟨k + 1, _, by omega, by go_num, hd1, by rw [hln]; exact hSk, by rw [← Nat.add_assoc]; exact HPs, (unhide hKk).trans hk1⟩
          case measure => simp [intOf]; omega
        | false =>
          rw [hst] at hDo
          rw [hst, if_neg (by simp)] at hPs
          have HPs := hide hPs
          clear hPs hPk hdrop hst hgs
          go_wp2_with (first | (refine wpLoadS' rfl (.tmp 31) rfl hb (off + k * 64) rfl s hsec (unhide HR) ?_) | (refine wpAllocS rfl rfl ?_) | (refine wpStoreS rfl (.tmp 13) (.tmp 32) rfl (wr.heap.size + 1) 0 s rfl rfl hsec (unhide hBX).at.2.2 ?_) | (go_at_call 72; go_must (refine (unhide hDo).mono ?_; rintro e w1 ⟨rfl, hd1, hk1⟩)))
          rw [Exit.noGoto_ret]
          go_ret
          exact ⟨rfl, (unhide HPs) ▸ hd1, ((hk2.mono (by simp)).trans (unhide hKk)).trans hk1⟩
      · go_wp2
        rw [Exit.noGoto_ret]
        go_ret
        have : L.drop k = [] := List.drop_eq_nil_of_le (by omega)
        have hp := unhide hPk
        rw [this] at hp
        simp only [Dev.puts] at hp
        exact ⟨rfl, hp ▸ hDk, ((hk2.mono (by simp)).trans (unhide hKk))⟩
  · have hU : D.write x ep f L = (D.ref x ep (hasS D.S.length f n), D) := by simp [Dev.write, hlen, hz]
    rw [hU]
    have hne : (D.ref x ep (hasS D.S.length f n) != 0) = true := by simpa using hz
    clear hU
    go_enter Tryd.func63, Tryd.ntmps63
    go_wp2
    generalize (w.alloc (.cells #[.pointer (some ⟨b, 0, none⟩)] 31)).alloc (.cells #[.int .i64 f] 3) = W at *
    go_step3
    go_wp2
    go_quiet ((first | (go_at_call 80; exact Calls.quiet_of_same (hasSectors53 _ _ _ _ _ (hD.drewN _).sz hD.ok.s1 hf)) | (go_at_call 84; go_must (exact Calls.quiet_of_same (refusal52 _ _ _ _ _ _ _ (hD.drewN _))))))
    go_wp2
    try rw [Exit.noGoto_ret]
    go_ret
    exact ⟨rfl, hD.drewN _, (hk2.mono (by simp)).drewN _⟩

end Go.Proofs.YtmeajhdhiebkdaaDoor.Dv

/-
  The walk of New.
-/
namespace Go.Proofs.YtmeajhdhiebkdaaDoor.Dv
open Go.RowKit

/-- So many sectors of noughts. -/
def noughts (n : Nat) : List (List Int) := List.replicate n nought
theorem noughts_len (n : Nat) : (noughts n).length = n := by simp [noughts]
theorem noughts_sec (n : Nat) : ∀ s ∈ noughts n, Sec s := fun s hs => by rw [List.eq_of_mem_replicate hs]; exact nought_sec
theorem noughts_flat (n : Nat) : (noughts n).flatten = List.replicate (n * 64) 0 := by
  unfold noughts nought
  induction n with
  | zero => rfl
  | succ n ih => rw [List.replicate_succ, List.flatten_cons, ih, List.replicate_append_replicate]; congr 1; omega

theorem made_same (m : Nat) (v : Value) (n : Nat) (hm : 0 < m) : madeCells (List.replicate m v).toArray n = (List.replicate n v).toArray := by
  apply Array.ext
  · rw [size_madeCells]; simp
  · intro i h1 h2
    have h3 : i % m < m := Nat.mod_lt _ hm
    simp [madeCells, h3]
theorem made_noughts (n : Nat) : madeCells (u8s nought).toArray (n * 64) = (u8s (noughts n).flatten).toArray := by
  have h1 : u8s nought = List.replicate 64 (Value.int .u8 0) := by unfold u8s nought; rw [List.map_replicate]
  have h2 : u8s (noughts n).flatten = List.replicate (n * 64) (Value.int .u8 0) := by unfold u8s; rw [noughts_flat, List.map_replicate]
  rw [h1, h2, made_same _ _ _ (by decide)]

theorem Tryd.zero38 : (Tryd.prog.info? 80).map (fun i => (i.zero, i.size, i.bytes)) = some (some (secV nought), 64, 64) := by kernel_rfl

theorem wpMakeS {ops : Array Oper} {rest : List Oper} {op : Oper} {a : Act} {w : World} {Q : Exit → Act → World → Prop} (hgd : op.guard = none) (x y : Operand) (ho : op.op = .makeSlice 85 x y) (n : Nat) (hx : a.eval x = .int .i64 n) (hy : a.eval y = .int .i64 n) (hn : n ≤ 2199023255552)
    (h : wpList Tryd.prog ops Q rest (a.put op.dst (.slice (some ⟨w.heap.size, 0, none⟩) n n)) (w.alloc (.cells (u8s (noughts n).flatten).toArray 80))) : wpList Tryd.prog ops Q (op :: rest) a w := by
  obtain ⟨i0, hi, hz0, hz1, hz2⟩ := info_parts Tryd.zero38
  have hr := run_make (P := Tryd.prog) w 85 80 i0 (secV nought) Tryd.underlying85 hi hz0 .i64 .i64 n n (by omega) (by omega) (by rw [hz2]; omega) (by omega)
  have hc : (secV nought).cells = (u8s nought).toArray := rfl
  rw [hz1, Int.toNat_natCast, hc, made_noughts] at hr
  refine wpList_plain hgd fun K hK => ?_
  unfold Oper.wp execOp
  simp only [ho, hx, hy, Sem.run_bind, hr, Result.andThen_ok]
  exact hK _ _ h

/-- A device of noughts. -/
def newDev (n N : Nat) : Dev := ⟨noughts n, N, List.replicate 8 0, 0, false, 0, false⟩
theorem newDev_ok {n N : Nat} (h : 1 ≤ n ∧ n ≤ 4096) (hN : 1 ≤ N ∧ N ≤ 8) : (newDev n N).Ok :=
  ⟨by simp [newDev, noughts_len]; omega, by simp [newDev, noughts_len]; omega, noughts_sec n, hN.1, hN.2, rfl, fun e he => by rw [List.eq_of_mem_replicate he]; omega, by simp [newDev]⟩

/-- May a device have so many sectors and nodes? -/
def newB (x y : Int) : Bool := decide ((1 ≤ x ∧ x ≤ 4096) ∧ 1 ≤ y ∧ y ≤ 8)

theorem new_no (x y : Int) (w : World) (h : newB x y = false) : Calls Tryd.prog 30 #[.int .i64 x, .int .i64 y] w fun e w' => e = .returned (.tuple #[.pointer none, .int .i64 2]) ∧ w' = w := by
  have h' : ¬ ((1 ≤ x ∧ x ≤ 4096) ∧ 1 ≤ y ∧ y ≤ 8) := by simpa [newB] using h
  have h1 := from29 1 x 4096 w
  have h2 := from29 1 y 8 w
  by_cases hx : 1 ≤ x ∧ x ≤ 4096
  · have e1 : decide (1 ≤ x ∧ x ≤ 4096) = true := by simpa using hx
    have e2 : decide (1 ≤ y ∧ y ≤ 8) = false := by simp; omega
    rw [e1] at h1
    rw [e2] at h2
    have H1 := hide h1
    have H2 := hide h2
    clear h h' h1 h2 e1 e2 hx
    go_enter Tryd.func30, Tryd.ntmps30
    go_wp2_with (go_at_call 53; first | (refine (unhide H1).mono ?_; rintro e w' ⟨rfl, rfl⟩; clear H1) | (refine (unhide H2).mono ?_; rintro e w' ⟨rfl, rfl⟩; clear H2))
    go_ret2
    exact ⟨rfl, rfl⟩
  · have e1 : decide (1 ≤ x ∧ x ≤ 4096) = false := by simp; omega
    rw [e1] at h1
    have H1 := hide h1
    clear h h' h1 h2 e1 hx
    go_enter Tryd.func30, Tryd.ntmps30
    go_wp2_with (go_at_call 53; first | (refine (unhide H1).mono ?_; rintro e w' ⟨rfl, rfl⟩; clear H1))
    go_ret2
    exact ⟨rfl, rfl⟩

set_option maxHeartbeats 1000000 in
theorem new_yes (n N : Nat) (w : World) (h : newB n N = true) : Calls Tryd.prog 30 #[.int .i64 n, .int .i64 N] w fun e w' => ∃ b g, e = .returned (.tuple #[.pointer (some ⟨b, 0, none⟩), .int .i64 0]) ∧ w.heap.size ≤ b ∧ w.heap.size ≤ g ∧ Dv w' b g (newDev n N) ∧ Kept [] w w' := by
  have h' : (1 ≤ (n : Int) ∧ (n : Int) ≤ 4096) ∧ 1 ≤ (N : Int) ∧ (N : Int) ≤ 8 := by simpa [newB] using h
  have h1 := from29 1 n 4096 w
  have h2 := from29 1 N 8 w
  have e1 : decide (1 ≤ (n : Int) ∧ (n : Int) ≤ 4096) = true := by simpa using h'.1
  have e2 : decide (1 ≤ (N : Int) ∧ (N : Int) ≤ 8) = true := by simpa using h'.2
  rw [e1] at h1
  rw [e2] at h2
  have H1 := hide h1
  have H2 := hide h2
  clear h h1 h2 e1 e2
  go_enter Tryd.func30, Tryd.ntmps30
  go_wp2_with (first | (go_at_call 53; first | (refine (unhide H1).mono ?_; rintro e w' ⟨rfl, rfl⟩; clear H1) | (refine (unhide H2).mono ?_; rintro e w' ⟨rfl, rfl⟩; clear H2)) | (refine wpMakeS rfl (.tmp 14) (.tmp 14) rfl n rfl rfl (by omega) ?_))
  go_ret2
  refine ⟨w'.heap.size + 1, w'.heap.size, rfl, by omega, by omega, ⟨newDev_ok (by omega) (by omega), by omega, n, ?_, [], ?_, ?_, ?_, ?_⟩, ((Kept.refl _ _).alloc _).alloc _⟩
  · unfold Head
    rw [heap_new (by simp)]
    simp [devCells, newDev, noughts_len]
  · rw [List.append_nil]; exact heap_alloc_old (heap_new rfl)
  · simp [newDev, noughts_len]
  · simp [newDev, noughts_len]
  · unfold maxLen; omega

end Go.Proofs.YtmeajhdhiebkdaaDoor.Dv
