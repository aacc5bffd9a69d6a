/-
  Laws for arrays and structs that are loaded, stored, made, boxed and compared as a whole: sectors, halves, bodies, versions, stamps.
-/
import Derived.Test.YtcfflbafclmheaaGreatDoorCc
import Derived.Deep.DeepMust
import Derived.Laws.MakeOwn
import Derived.Test.YtcfflbafclmheaaGreatDoorPlain
import Derived.Orders
import Derived.Test.YtcfflbafclmheaaGreatDoorProg
import Derived.BigFrame
import Derived.ChangeKeysEq
import Derived.Deep.QuietTactic
import Derived.Laws.CopyOwn
import Derived.Deep.RegionLaw
import Derived.Laws.StructEq

/-
  The walks of Write and Swap.
-/
namespace Go.Proofs.YtcfflbafclmheaaGreatDoor.Dv
open Go.RowKit

theorem cell_sets_ne {w : World} {g o p i : Nat} {vs : List Value} {v : Value} (hne : p ≠ g) (h : w.cell? ⟨p, i, none⟩ = some v) : (w.setCells g o vs).cell? ⟨p, i, none⟩ = some v := by
  rw [World.cell?_of_block (w := w) (sets_ne vs w o p hne)]; exact h

/-- A device one of whose sectors is written. -/
theorem Dv.putS {w : World} {b g k : Nat} {D : Dev} {s : List Int} (h : Dv w b g D) (hk : k < D.S.length) (hs : Sec s) : Dv (w.setCells g (k * 64) (u8s s)) b g { D with S := D.S.set k s } := by
  obtain ⟨cap, h1, h2⟩ := h.lay
  refine ⟨h.ok.sector k s hs, h.ne, cap, ?_, h2.put h.ok.sec k hk s hs.1⟩
  unfold Head at h1 ⊢
  rw [sets_ne _ _ _ _ h.ne, h1]
  simp [devCells]

theorem Tryz.size38 : (Tryz.prog.info? 59).map (·.size) = some 64 := Tryz.info38

set_option maxHeartbeats 1000000 in
set_option maxRecDepth 100000 in
theorem write55 (ps pd pf pi b g : Nat) (D : Dev) (f i m : Nat) (hm : Hid (m = f + i)) (s : List Int) (w : World) (h : Dv w b g D) (hk : m < D.S.length) (hs : Box w ps s) (hd : w.cell? ⟨pd, 0, none⟩ = some (.pointer (some ⟨b, 0, none⟩))) (hf : w.cell? ⟨pf, 0, none⟩ = some (.int .i64 f)) (hi : w.cell? ⟨pi, 0, none⟩ = some (.int .i64 i)) (n0 : ps ≠ g) (n1 : pd ≠ g) (n2 : pf ≠ g) (n3 : pi ≠ g) :
    Calls Tryz.prog 130 #[.pointer (some ⟨ps, 0, none⟩), .pointer (some ⟨pd, 0, none⟩), .pointer (some ⟨pf, 0, none⟩), .pointer (some ⟨pi, 0, none⟩)] w fun e w' => e = .returned (.tuple #[]) ∧ Dv w' b g { D with S := D.S.set m s } ∧ Kept [g] w w' := by
  have hp := hide (h.drew.putS hk hs.1)
  have hsec := hs.1
  have hl1 := h.ok.s1
  have hne := h.ne
  obtain ⟨cap, hh, hbd⟩ := h.lay
  have hc0 := (hh.cells h.ok).1
  have hth := hbd.there h.ok.sec m hk
  have hrs := hs.at.2.1
  have h0 : (0 : Int) ≤ (m : Int) := by omega
  have hk' : (m : Int) < D.S.length := by omega
  have hw : IntKind.i64.wrap ((f : Int) + (i : Int)) = (m : Int) := by
    have := unhide hm
    rw [IntKind.wrap_i64]; omega
  have hu := Tryz.underlying59
  have hu8 : (u8s s).length = 64 := by rw [u8s_len, hsec.1]
  have hsz : (Tryz.prog.info? 59).map (·.size) = some (u8s s).length := by rw [hu8]; exact Tryz.info38
  have hone := u8s_one s
  clear hh hbd h hs
  go_enter Tryz.func130, Tryz.ntmps130
  go_wp2
  go_region_held3 (fun w' => w'.cell? ⟨pd, 0, none⟩ = some (.pointer (some ⟨b, 0, none⟩)) ∧ w'.cell? ⟨pf, 0, none⟩ = some (.int .i64 f) ∧ w'.cell? ⟨pi, 0, none⟩ = some (.int .i64 i) ∧ w'.cell? ⟨b, 0, none⟩ = some (.slice (some ⟨g, 0, none⟩) D.S.length cap) ∧ w'.rangeAt ps 0 (u8s s) ∧ w'.there g (m * 64) 64)
    (first | (go_keep_ranges; done) | (go_keep; done) | (go_split_ands; simp only [World.rangeAt_drew, World.there_drew] at *; refine ⟨cell_sets_ne n1 (by assumption), cell_sets_ne n2 (by assumption), cell_sets_ne n3 (by assumption), cell_sets_ne hne (by assumption), World.rangeAt_setCells_apart (by assumption) _ _ _ (.inl n0), World.there_setCells (by assumption) _ _ _⟩)) (fail)
  all_goals go_wp2
  exact bodyPost_end (results_none rfl _ _ _) rfl ⟨rfl, unhide hp, (Kept.refl _ _).drew.setCells _ _ (by simp)⟩

set_option maxHeartbeats 1000000 in
set_option maxRecDepth 100000 in
theorem swap57 (ps pd pf b g : Nat) (D : Dev) (m : Nat) (s : List Int) (w : World) (h : Dv w b g D) (hk : m < D.S.length) (hs : Box w ps s) (hd : w.cell? ⟨pd, 0, none⟩ = some (.pointer (some ⟨b, 0, none⟩))) (hf : w.cell? ⟨pf, 0, none⟩ = some (.int .i64 m)) (n0 : ps ≠ g) (n1 : pd ≠ g) (n2 : pf ≠ g) :
    Calls Tryz.prog 159 #[.pointer (some ⟨ps, 0, none⟩), .pointer (some ⟨pd, 0, none⟩), .pointer (some ⟨pf, 0, none⟩)] w fun e w' => e = .returned (.tuple #[]) ∧ Dv w' b g { D with S := D.S.set m s } ∧ Kept [g] w w' := by
  have hp := hide (h.drew.putS hk hs.1)
  have hsec := hs.1
  have hl1 := h.ok.s1
  have hne := h.ne
  obtain ⟨cap, hh, hbd⟩ := h.lay
  have hc0 := (hh.cells h.ok).1
  have hth := hbd.there h.ok.sec m hk
  have hrs := hs.at.2.1
  have h0 : (0 : Int) ≤ (m : Int) := by omega
  have hk' : (m : Int) < D.S.length := by omega
  have hu := Tryz.underlying59
  have hu8 : (u8s s).length = 64 := by rw [u8s_len, hsec.1]
  have hsz : (Tryz.prog.info? 59).map (·.size) = some (u8s s).length := by rw [hu8]; exact Tryz.info38
  have hone := u8s_one s
  clear hh hbd h hs
  go_enter Tryz.func159, Tryz.ntmps159
  go_wp2
  go_region_held3 (fun w' => w'.cell? ⟨pd, 0, none⟩ = some (.pointer (some ⟨b, 0, none⟩)) ∧ w'.cell? ⟨pf, 0, none⟩ = some (.int .i64 m) ∧ w'.cell? ⟨b, 0, none⟩ = some (.slice (some ⟨g, 0, none⟩) D.S.length cap) ∧ w'.rangeAt ps 0 (u8s s) ∧ w'.there g (m * 64) 64)
    (first | (go_keep_ranges; done) | (go_keep; done) | (go_split_ands; simp only [World.rangeAt_drew, World.there_drew] at *; refine ⟨cell_sets_ne n1 (by assumption), cell_sets_ne n2 (by assumption), cell_sets_ne hne (by assumption), World.rangeAt_setCells_apart (by assumption) _ _ _ (.inl n0), World.there_setCells (by assumption) _ _ _⟩)) (fail)
  all_goals go_wp2
  exact bodyPost_end (results_none rfl _ _ _) rfl ⟨rfl, unhide hp, (Kept.refl _ _).drew.setCells _ _ (by simp)⟩

theorem has_is (p : Value) (n : Nat) (first many : Int) (w : World) (h : Sz w p n) (hn : n ≤ 4096) (hf : -9223372036854775808 ≤ first ∧ first ≤ 9223372036854775807) (r : Bool) (hr : hasS n first many = r) :
    Calls Tryz.prog 129 #[p, .int .i64 first, .int .i64 many] w fun e w' => e = .returned (.bool r) ∧ w' = w := by subst hr; exact hasSectors53 p n first many w h hn hf
theorem ref_is (b g : Nat) (D : Dev) (x ep : Int) (may : Bool) (w : World) (h : Dv w b g D) (r : Int) (hr : D.ref x ep may = r) : Calls Tryz.prog 128 #[.pointer (some ⟨b, 0, none⟩), .int .i64 x, .int .i64 ep, .bool may] w fun e w' => e = .returned (.int .i64 r) ∧ w' = w := by
  subst hr; exact refusal52 b g D x ep may w h

theorem wpLoadS' {ops : Array Oper} {rest : List Oper} {op : Oper} {a : Act} {w : World} {Q : Exit → Act → World → Prop} (hgd : op.guard = none) (x : Operand) (ho : op.op = .load 59 x)
    (b o : Nat) (hx : a.eval x = .pointer (some ⟨b, o, none⟩)) (s : List Int) (hs : Sec s) (hA : w.rangeAt b o (u8s s)) (h : wpList Tryz.prog ops Q rest (a.put op.dst (secV s)) w) : wpList Tryz.prog ops Q (op :: rest) a w :=
  wpList_load_mid (P := Tryz.prog) hgd 59 x ho b o hx (u8s s) _ hA Tryz.underlying59 rfl (by rw [u8s_len, hs.1]; exact Tryz.info38) h

theorem _root_.Go.Proofs.YtcfflbafclmheaaGreatDoor.Kept.drewN {X : List Nat} {a w : World} (h : Kept X a w) (n : Nat) : Kept X a (w.drewN n) := ⟨h.os, h.tape, h.output, h.size, h.block⟩
theorem Dv.drewN {w : World} {b g : Nat} {D : Dev} (h : Dv w b g D) (n : Nat) : Dv (w.drewN n) b g D := h.kept (X := []) ((Kept.refl _ _).drewN n) (by simp) (by simp)

/-- A slice of sectors. -/
structure Secs (w : World) (ao : Option Addr) (n c : Nat) (L : List (List Int)) : Prop where
  len : L.length = n
  sec : ∀ s ∈ L, Sec s
  cap : n ≤ c
  lies : L ≠ [] → ∃ h off, ao = some ⟨h, off, none⟩ ∧ ∀ i (hi : i < L.length), w.rangeAt h (off + i * 64) (u8s L[i])

/-- The block that a slice of sectors lies in is none of X. -/
def Away (ao : Option Addr) (X : List Nat) : Prop := ∀ h off, ao = some ⟨h, off, none⟩ → h ∉ X

theorem Secs.kept {w w' : World} {ao : Option Addr} {n c : Nat} {L : List (List Int)} {X : List Nat} (h : Secs w ao n c L) (hk : Kept X w w') (ha : Away ao X) : Secs w' ao n c L := by
  refine ⟨h.len, h.sec, h.cap, fun hne => ?_⟩
  obtain ⟨b, off, e, hr⟩ := h.lies hne
  exact ⟨b, off, e, fun i hi j v hj => hk.cell (hr i hi j v hj) (ha b off e)⟩

/-- Sectors that are written, one behind the other. -/
def Dev.puts (D : Dev) (k : Nat) : List (List Int) → Dev
  | [] => D
  | s :: L => if (D.step (D.S.set k s) D.E).2 then ((D.step (D.S.set k s) D.E).1).puts (k + 1) L else (D.step (D.S.set k s) D.E).1

/-- What Write tells, and the device behind it. -/
def Dev.write (D : Dev) (x ep f : Int) (L : List (List Int)) : Int × Dev :=
  if D.ref x ep (hasS D.S.length f L.length) = 0 then (0, D.puts f.toNat L) else (D.ref x ep (hasS D.S.length f L.length), D)

theorem step_len (D : Dev) (k : Nat) (s : List Int) : (D.step (D.S.set k s) D.E).1.S.length = D.S.length := by unfold Dev.step; split <;> simp

set_option maxHeartbeats 2000000 in
set_option maxRecDepth 100000 in
theorem write22 (b g : Nat) (D : Dev) (x ep f : Int) (ao : Option Addr) (n c : Nat) (L : List (List Int)) (w : World) (h : Dv w b g D) (hf : -9223372036854775808 ≤ f ∧ f ≤ 9223372036854775807) (hn : n ≤ 9223372036854775807) (hL : Secs w ao n c L) (hA : Away ao [b, g]) :
    Calls Tryz.prog 73 #[.pointer (some ⟨b, 0, none⟩), .int .i64 x, .int .i64 ep, .int .i64 f, .slice ao n c] w fun e w' => e = .returned (.int .i64 (D.write x ep f L).1) ∧ Dv w' b g (D.write x ep f L).2 ∧ Kept [b, g] w w' := by
  have hlt := h.lt
  have hk2 : Kept [] w ((w.alloc (.cells #[.pointer (some ⟨b, 0, none⟩)] 32)).alloc (.cells #[.int .i64 f] 3)) := ((Kept.refl _ _).alloc _).alloc _
  have hD := h.kept hk2 (by simp) (by simp)
  have hL2 := hL.kept hk2 (by intro _ _ _; simp)
  have hc1 : ((w.alloc (.cells #[.pointer (some ⟨b, 0, none⟩)] 32)).alloc (.cells #[.int .i64 f] 3)).cell? ⟨w.heap.size, 0, none⟩ = some (.pointer (some ⟨b, 0, none⟩)) := box_at (heap_alloc_old (heap_new rfl))
  have hc2 : ((w.alloc (.cells #[.pointer (some ⟨b, 0, none⟩)] 32)).alloc (.cells #[.int .i64 f] 3)).cell? ⟨w.heap.size + 1, 0, none⟩ = some (.int .i64 f) := box_at (heap_new (by simp))
  have hsz : w.heap.size + 2 ≤ ((w.alloc (.cells #[.pointer (some ⟨b, 0, none⟩)] 32)).alloc (.cells #[.int .i64 f] 3)).heap.size := by simp
  have hlen := hL.len
  by_cases hz : D.ref x ep (hasS D.S.length f n) = 0
  · have hU : D.write x ep f L = (0, D.puts f.toNat L) := by simp [Dev.write, hlen, hz]
    rw [hU]
    have hS := ref_may hz
    have hff : 0 ≤ f ∧ (n : Int) ≤ D.S.length - f := by simpa [hasS] using hS
    obtain ⟨F, rfl⟩ := Int.eq_ofNat_of_zero_le hff.1
    simp only [Int.toNat_natCast]
    clear hU
    rw [hS] at hz
    have HZ := hide hz
    have HS := hide hS
    clear hz hS
    go_enter Tryz.func73, Tryz.ntmps73
    go_wp2
    generalize (w.alloc (.cells #[.pointer (some ⟨b, 0, none⟩)] 32)).alloc (.cells #[.int .i64 F] 3) = W at *
    go_step3
    go_wp2
    go_quiet ((first | (go_at_call 129; exact Calls.quiet_of_same (has_is _ _ _ _ _ (hD.drewN _).sz hD.ok.s1 hf true (unhide HS))) | (go_at_call 128; go_must (exact Calls.quiet_of_same (ref_is _ _ _ _ _ _ _ (hD.drewN _) 0 (unhide HZ))))))
    go_wp2
    go_step3
    go_wp2
    have hkW : Hid (Kept [b, g] W (W.drewN nq)) := (Kept.refl _ _).drewN _
    have hDW : Hid (Dv (W.drewN nq) b g D) := hD.drewN _
    go_loopw [28] (fun i wr => ∃ (k : Nat) (Dk : Dev), k ≤ n ∧ i = .int .i64 k ∧ Dv wr b g Dk ∧ Dk.S.length = D.S.length ∧ Hid (Dk.puts (F + k) (L.drop k) = D.puts F L) ∧ Hid (Kept [b, g] W wr)) (fun i _ => n - (intOf i).toNat)
    case atStart => exact ⟨0, D, by omega, rfl, unhide hDW, rfl, rfl, hkW⟩
    case round =>
      obtain ⟨k, Dk, hkn, rfl, hDk, hSk, hPk, hKk⟩ := hrel
      have hb1 := (unhide hKk).cell hc1 (by simp; omega)
      have hb2 := (unhide hKk).cell hc2 (by simp; omega)
      by_cases hlt' : k < n
      · obtain ⟨s, hs⟩ : ∃ s, L[k]? = some s := ⟨_, List.getElem?_eq_getElem (by omega)⟩
        have hsec : Sec s := hL2.sec s (List.mem_of_getElem? hs)
        obtain ⟨hb, off, rfl, hr⟩ := hL2.lies (by intro e; simp [e] at hlen; omega)
        have hrk := hr k (by omega)
        have hgs : L[k]'(by omega) = s := by have := List.getElem?_eq_getElem (l := L) (i := k) (by omega); rw [this] at hs; simpa using hs
        rw [hgs] at hrk
        have hrr : wr.rangeAt hb (off + k * 64) (u8s s) := fun j v hj => (unhide hKk).cell (hrk j v hj) (hA hb off rfl)
        have HR := hide hrr
        have hBX : Hid (Box ((wr.alloc (Obj.cells #[.int .i64 k] 3)).alloc (Obj.cells (u8s nought).toArray 59)) (wr.heap.size + 1) nought) := ⟨nought_sec, heap_new (by simp)⟩
        have hKX : Hid (Kept [] wr ((wr.alloc (Obj.cells #[.int .i64 k] 3)).alloc (Obj.cells (u8s nought).toArray 59))) := ((Kept.refl _ _).alloc _).alloc _
        have hCX : Hid (((wr.alloc (Obj.cells #[.int .i64 k] 3)).alloc (Obj.cells (u8s nought).toArray 59)).cell? ⟨wr.heap.size, 0, none⟩ = some (.int .i64 k)) := box_at (heap_alloc_old (heap_new rfl))
        have hwr := (unhide hKk).size
        have hKY : Hid (Kept [] wr (((wr.alloc (Obj.cells #[.int .i64 k] 3)).alloc (Obj.cells (u8s nought).toArray 59)).setCells (wr.heap.size + 1) 0 (u8s s))) := (unhide hKX).setCells _ _ (by omega)
        have hb3 : (((wr.alloc (Obj.cells #[.int .i64 k] 3)).alloc (Obj.cells (u8s nought).toArray 59)).setCells (wr.heap.size + 1) 0 (u8s s)).cell? ⟨w.heap.size, 0, none⟩ = some (.pointer (some ⟨b, 0, none⟩)) := (unhide hKY).cell hb1 (by simp)
        have hDo : Hid (Calls Tryz.prog 115 #[.pointer (some ⟨b, 0, none⟩), .func (.func 130) #[] #[.pointer (some ⟨wr.heap.size + 1, 0, none⟩), .pointer (some ⟨w.heap.size, 0, none⟩), .pointer (some ⟨w.heap.size + 1, 0, none⟩), .pointer (some ⟨wr.heap.size, 0, none⟩)]] (((wr.alloc (Obj.cells #[.int .i64 k] 3)).alloc (Obj.cells (u8s nought).toArray 59)).setCells (wr.heap.size + 1) 0 (u8s s)) fun e w' => e = .returned (.bool (Dk.step (Dk.S.set (F + k) s) Dk.E).2) ∧ Dv w' b g (Dk.step (Dk.S.set (F + k) s) Dk.E).1 ∧ Kept [b, g] wr w') := by
          have hlt2 := hDk.lt
          have hDY := hDk.kept (unhide hKY) (by simp) (by simp)
          refine (do54_55 b g Dk (Dk.S.set (F + k) s) Dk.E _ _ hDY ?_).mono ?_
          · intro D1 w1 hS1 hE1 hN1 h1 k1
            refine (write55 (wr.heap.size + 1) w.heap.size (w.heap.size + 1) wr.heap.size b g D1 F k (F + k) rfl s w1 h1 (by rw [hS1, hSk]; omega) (((unhide hBX).put hsec).kept k1 (by simp; omega)) (k1.cell hb3 (by simp; omega)) (k1.cell ((unhide hKY).cell hb2 (by simp)) (by simp; omega)) (k1.cell (cell_sets_ne (by omega) (unhide hCX)) (by simp; omega)) (by omega) (by omega) (by omega) (by omega)).mono ?_
            rintro e w2 ⟨rfl, h2, k2⟩
            refine ⟨rfl, ?_, k2.mono (by simp)⟩
            rw [← hS1, ← hE1]
            exact h2
          · rintro e w2 ⟨rfl, h2, k2⟩
            exact ⟨rfl, h2, ((unhide hKY).mono (by simp)).trans k2⟩
        clear hr hrk hrr
        have hdrop : L.drop k = s :: L.drop (k + 1) := by rw [List.drop_eq_getElem_cons (by omega), hgs]
        have hPs := unhide hPk
        rw [hdrop, Dev.puts] at hPs
        cases hst : (Dk.step (Dk.S.set (F + k) s) Dk.E).2 with
        | true =>
          rw [hst] at hDo
          rw [hst, if_pos rfl] at hPs
          have HPs := hide hPs
          have hln := step_len Dk (F + k) s
          clear hPs hPk hdrop hst hgs
          go_wp2_with (first | (refine wpLoadS' rfl (.tmp 31) rfl hb (off + k * 64) rfl s hsec (unhide HR) ?_) | (refine wpAllocS rfl rfl ?_) | (refine wpStoreS rfl (.tmp 13) (.tmp 32) rfl (wr.heap.size + 1) 0 s rfl rfl hsec (unhide hBX).at.2.2 ?_) | (go_at_call 115; go_must (refine (unhide hDo).mono ?_; rintro e w1 ⟨rfl, hd1, hk1⟩)))
          go_roundw
          case rel => exact ⟨k + 1, _, by omega, by go_num, hd1, by rw [hln]; exact hSk, by rw [← Nat.add_assoc]; exact HPs, (unhide hKk).trans hk1⟩
          case measure => simp [intOf]; omega
        | false =>
          rw [hst] at hDo
          rw [hst, if_neg (by simp)] at hPs
          have HPs := hide hPs
          clear hPs hPk hdrop hst hgs
          go_wp2_with (first | (refine wpLoadS' rfl (.tmp 31) rfl hb (off + k * 64) rfl s hsec (unhide HR) ?_) | (refine wpAllocS rfl rfl ?_) | (refine wpStoreS rfl (.tmp 13) (.tmp 32) rfl (wr.heap.size + 1) 0 s rfl rfl hsec (unhide hBX).at.2.2 ?_) | (go_at_call 115; go_must (refine (unhide hDo).mono ?_; rintro e w1 ⟨rfl, hd1, hk1⟩)))
          rw [Exit.noGoto_ret]
          go_ret
          exact ⟨rfl, (unhide HPs) ▸ hd1, ((hk2.mono (by simp)).trans (unhide hKk)).trans hk1⟩
      · go_wp2
        rw [Exit.noGoto_ret]
        go_ret
        have : L.drop k = [] := List.drop_eq_nil_of_le (by omega)
        have hp := unhide hPk
        rw [this] at hp
        simp only [Dev.puts] at hp
        exact ⟨rfl, hp ▸ hDk, ((hk2.mono (by simp)).trans (unhide hKk))⟩
  · have hU : D.write x ep f L = (D.ref x ep (hasS D.S.length f n), D) := by simp [Dev.write, hlen, hz]
    rw [hU]
    have hne : (D.ref x ep (hasS D.S.length f n) != 0) = true := by simpa using hz
    clear hU
    go_enter Tryz.func73, Tryz.ntmps73
    go_wp2
    generalize (w.alloc (.cells #[.pointer (some ⟨b, 0, none⟩)] 32)).alloc (.cells #[.int .i64 f] 3) = W at *
    go_step3
    go_wp2
    go_quiet ((first | (go_at_call 129; exact Calls.quiet_of_same (hasSectors53 _ _ _ _ _ (hD.drewN _).sz hD.ok.s1 hf)) | (go_at_call 128; go_must (exact Calls.quiet_of_same (refusal52 _ _ _ _ _ _ _ (hD.drewN _))))))
    go_wp2
    try rw [Exit.noGoto_ret]
    go_ret
    exact ⟨rfl, hD.drewN _, (hk2.mono (by simp)).drewN _⟩

end Go.Proofs.YtcfflbafclmheaaGreatDoor.Dv

/-
  The walk of Swap.
-/
namespace Go.Proofs.YtcfflbafclmheaaGreatDoor.Dv
open Go.RowKit

/-- What Swap tells, and the device behind it. -/
def Dev.swap (D : Dev) (x ep f : Int) (s t : List Int) : Bool × Int × Dev :=
  if D.ref x ep (hasS D.S.length f 1) = 0 then (if D.S.getD f.toNat nought = s then (true, 0, (D.step (D.S.set f.toNat t) D.E).1) else (false, 0, D)) else (false, D.ref x ep (hasS D.S.length f 1), D)

/-- The world behind Swap's boxes. -/
def swapW (w : World) (p : Value) (f : Int) (s t : List Int) : World := (((w.alloc (.cells #[p] 32)).alloc (.cells #[.int .i64 f] 3)).alloc (.cells (u8s s).toArray 59)).alloc (.cells (u8s t).toArray 59)

theorem swapW_kept (w : World) (p : Value) (f : Int) (s t : List Int) (X : List Nat) : Kept X w (swapW w p f s t) := ((((Kept.refl _ _).alloc _).alloc _).alloc _).alloc _
theorem swapW_d (w : World) (p : Value) (f : Int) (s t : List Int) : (swapW w p f s t).cell? ⟨w.heap.size, 0, none⟩ = some p := box_at (heap_alloc_old (heap_alloc_old (heap_alloc_old (heap_new rfl))))
theorem swapW_f (w : World) (p : Value) (f : Int) (s t : List Int) : (swapW w p f s t).cell? ⟨w.heap.size + 1, 0, none⟩ = some (.int .i64 f) := box_at (heap_alloc_old (heap_alloc_old (heap_new (by simp))))
theorem swapW_s (w : World) (p : Value) (f : Int) (s t : List Int) (hs : Sec s) : Box (swapW w p f s t) (w.heap.size + 1 + 1) s := ⟨hs, heap_alloc_old (heap_new (by simp))⟩
theorem swapW_t (w : World) (p : Value) (f : Int) (s t : List Int) (ht : Sec t) : Box (swapW w p f s t) (w.heap.size + 1 + 1 + 1) t := ⟨ht, heap_new (by simp)⟩

set_option maxHeartbeats 1000000 in
set_option maxRecDepth 100000 in
theorem swap_nil0 (o : Option Addr) (x ep f : Int) (s t : List Int) (w : World) (h : Sz w (.pointer o) 0) (hf : -9223372036854775808 ≤ f ∧ f ≤ 9223372036854775807) :
    Calls Tryz.prog 153 #[.pointer o, .int .i64 x, .int .i64 ep, .int .i64 f, secV s, secV t] w fun e w' => e = .returned (.tuple #[.bool false, .int .i64 1]) ∧ Kept [] w w' := by
  have hk := swapW_kept w (.pointer o) f s t []
  have hz := h.kept hk (by simp)
  have hd := swapW_d w (.pointer o) f s t
  have hff := swapW_f w (.pointer o) f s t
  have HF := hide hf
  clear hf
  go_enter Tryz.func153, Tryz.ntmps153
  go_wp2_with (first | (refine wpBoxS rfl (.tmp 4) rfl s rfl ?_) | (refine wpBoxS rfl (.tmp 5) rfl t rfl ?_))
  change Code.wp _ _ _ _ (swapW w (.pointer o) f s t)
  generalize swapW w (.pointer o) f s t = W at *
  go_quiet ((first | (go_at_call 129; exact Calls.quiet_of_same (hasSectors53 _ _ _ _ _ (hz.kept (X := []) ((Kept.refl _ _).drewN _) (by simp)) (by omega) (unhide HF))) | (go_at_call 128; go_must (exact Calls.quiet_of_same (refusal_nil _ _ _ _ _ (hz.kept (X := []) ((Kept.refl _ _).drewN _) (by simp)))))))
  go_wp2
  try rw [Exit.noGoto_ret]
  go_ret2
  exact ⟨rfl, hk.drewN _⟩
theorem swap_nil (p : Value) (x ep f : Int) (s t : List Int) (w : World) (h : Sz w p 0) (hf : -9223372036854775808 ≤ f ∧ f ≤ 9223372036854775807) :
    Calls Tryz.prog 153 #[p, .int .i64 x, .int .i64 ep, .int .i64 f, secV s, secV t] w fun e w' => e = .returned (.tuple #[.bool false, .int .i64 1]) ∧ Kept [] w w' := by
  have h0 := h
  rcases h0 with ⟨rfl, _⟩ | ⟨b, ao, cap, rfl, _⟩ <;> exact swap_nil0 _ x ep f s t w h hf

set_option maxHeartbeats 1000000 in
set_option maxRecDepth 100000 in
theorem swap30 (b g : Nat) (D : Dev) (x ep f : Int) (s t : List Int) (w : World) (h : Dv w b g D) (hf : -9223372036854775808 ≤ f ∧ f ≤ 9223372036854775807) (hs : Sec s) (ht : Sec t) :
    Calls Tryz.prog 153 #[.pointer (some ⟨b, 0, none⟩), .int .i64 x, .int .i64 ep, .int .i64 f, secV s, secV t] w fun e w' => e = .returned (.tuple #[.bool (D.swap x ep f s t).1, .int .i64 (D.swap x ep f s t).2.1]) ∧ Dv w' b g (D.swap x ep f s t).2.2 ∧ Kept [b, g] w w' := by
  have hlt := h.lt
  have hk := swapW_kept w (.pointer (some ⟨b, 0, none⟩)) f s t []
  have hD := h.kept hk (by simp) (by simp)
  have hd := swapW_d w (.pointer (some ⟨b, 0, none⟩)) f s t
  have hff := swapW_f w (.pointer (some ⟨b, 0, none⟩)) f s t
  have hbs := hide (swapW_s w (.pointer (some ⟨b, 0, none⟩)) f s t hs)
  have hbt := hide (swapW_t w (.pointer (some ⟨b, 0, none⟩)) f s t ht)
  by_cases hz : D.ref x ep (hasS D.S.length f 1) = 0
  · have hS := ref_may hz
    have hfs : 0 ≤ f ∧ (1 : Int) ≤ D.S.length - f := by simpa [hasS] using hS
    obtain ⟨F, rfl⟩ := Int.eq_ofNat_of_zero_le hfs.1
    have hFl : F < D.S.length := by omega
    have hgd : D.S.getD F nought = D.S[F] := by simp [List.getD, hFl]
    have hsecF := hD.ok.sec _ (List.getElem_mem hFl)
    have hU : D.swap x ep F s t = if D.S[F] = s then (true, 0, (D.step (D.S.set F t) D.E).1) else (false, 0, D) := by simp [Dev.swap, hz, hFl]
    rw [hU]
    rw [hS] at hz
    have HZ := hide hz
    have HS := hide hS
    have HU := hide hgd
    clear hz hS hgd hU
    obtain ⟨cap, hh, hbd⟩ := hD.lay
    have hc0 := (hh.cells hD.ok).1
    have hrF := hbd.range hD.ok.sec F hFl
    have hrs := (unhide hbs).at.2.1
    have hu := Tryz.underlying59
    have hu8 : (u8s D.S[F]).length = 64 := by rw [u8s_len, hsecF.1]
    have hu9 : (u8s s).length = 64 := by rw [u8s_len, hs.1]
    have hsz : (Tryz.prog.info? 59).map (·.size) = some (u8s D.S[F]).length := by rw [hu8]; exact Tryz.info38
    have hsz2 : (Tryz.prog.info? 59).map (·.size) = some (u8s s).length := by rw [hu9]; exact Tryz.info38
    have h0 : (0 : Int) ≤ (F : Int) := by omega
    have hF' : (F : Int) < D.S.length := by omega
    have hn := fun W => neq_secs W D.S[F] s hsecF hs
    have hg := fun W x y => guard_secs W .neq x y D.S[F] s
    simp only [secV] at hn hg
    clear hh hbd
    by_cases he : D.S[F] = s
    · rw [if_pos he]
      have hdec : Hid ((!decide (D.S[F] = s)) = false) := by simpa [Hid] using he
      clear he
      go_enter Tryz.func153, Tryz.ntmps153
      go_wp2_with (first | (refine wpBoxS rfl (.tmp 4) rfl s rfl ?_) | (refine wpBoxS rfl (.tmp 5) rfl t rfl ?_))
      change Code.wp _ _ _ _ (swapW w (.pointer (some ⟨b, 0, none⟩)) F s t)
      generalize swapW w (.pointer (some ⟨b, 0, none⟩)) F s t = W at *
      go_quiet ((first | (go_at_call 129; exact Calls.quiet_of_same (has_is _ _ _ _ _ (hD.drewN _).sz hD.ok.s1 hf true (unhide HS))) | (go_at_call 128; go_must (exact Calls.quiet_of_same (ref_is _ _ _ _ _ _ _ (hD.drewN _) 0 (unhide HZ))))))
      go_wp2
      have hd1 : (W.drewN nq).cell? ⟨w.heap.size, 0, none⟩ = some (.pointer (some ⟨b, 0, none⟩)) := hd
      have hff1 : (W.drewN nq).cell? ⟨w.heap.size + 1, 0, none⟩ = some (.int .i64 F) := hff
      have hc01 : (W.drewN nq).cell? ⟨b, 0, none⟩ = some (.slice (some ⟨g, 0, none⟩) D.S.length cap) := hc0
      have hrF1 : (W.drewN nq).rangeAt g (F * 64) (u8s D.S[F]) := hrF
      have hrs1 : (W.drewN nq).rangeAt (w.heap.size + 1 + 1) 0 (u8s s) := hrs
      have hD1 := hD.drewN nq
      have hbt1 : Hid (Box (W.drewN nq) (w.heap.size + 1 + 1 + 1) t) := (unhide hbt).kept (X := []) ((Kept.refl _ _).drewN _) (by simp)
      have hk1 : Kept [] w (W.drewN nq) := hk.drewN nq
      have i1 : Hid (w.heap.size ≠ b ∧ w.heap.size ≠ g) := ⟨by omega, by omega⟩
      have i2 : Hid (w.heap.size + 1 ≠ b ∧ w.heap.size + 1 ≠ g) := ⟨by omega, by omega⟩
      have i3 : Hid (w.heap.size + 1 + 1 + 1 ≠ b ∧ w.heap.size + 1 + 1 + 1 ≠ g) := ⟨by omega, by omega⟩
      clear hbs hbt hd hff hc0 hrF hrs hD hk hlt
      generalize w.heap.size + 1 + 1 + 1 = pt at *
      generalize w.heap.size + 1 + 1 = ps at *
      generalize w.heap.size + 1 = pf at *
      generalize w.heap.size = pd at *
      generalize W.drewN nq = W1 at *
      refine wp_region_quiet_lit (by kernel_rfl) (by kernel_rfl) ?_
      repeat (first | (refine quietLoadS rfl (.tmp 30) rfl g (F * 64) rfl D.S[F] hsecF (by rintro _ ⟨_, rfl⟩; exact hrF1) ?_) | (refine quietLoadS rfl (.tmp 10) rfl ps 0 rfl s hs (by rintro _ ⟨_, rfl⟩; exact hrs1) ?_) | (refine quietNeqS rfl (.tmp 31) (.tmp 32) _ rfl D.S[F] s rfl rfl hsecF hs _ (unhide hdec) ?_) | quiet_step (fail))
      refine wpQuiet_nil ?_
      intro _ hw'
      obtain ⟨nq2, hw''⟩ := hw'
      subst hw''
      have hd2 : (W1.drewN nq2).cell? ⟨pd, 0, none⟩ = some (.pointer (some ⟨b, 0, none⟩)) := hd1
      have hD2 := hD1.drewN nq2
      have hf2 : Hid ((W1.drewN nq2).cell? ⟨pf, 0, none⟩ = some (.int .i64 F)) := hff1
      have hbt2 : Hid (Box (W1.drewN nq2) pt t) := (unhide hbt1).kept (X := []) ((Kept.refl _ _).drewN _) (by simp)
      have hk2 : Hid (Kept [] w (W1.drewN nq2)) := hk1.drewN nq2
      clear hd1 hD1 hff1 hbt1 hk1 hc01 hrF1 hrs1 hn hg
      generalize W1.drewN nq2 = W2 at *
      have hDo : Hid (Calls Tryz.prog 115 #[.pointer (some ⟨b, 0, none⟩), .func (.func 159) #[] #[.pointer (some ⟨pt, 0, none⟩), .pointer (some ⟨pd, 0, none⟩), .pointer (some ⟨pf, 0, none⟩)]] W2 fun e w' => e = .returned (.bool (D.step (D.S.set F t) D.E).2) ∧ Dv w' b g (D.step (D.S.set F t) D.E).1 ∧ Kept [b, g] W2 w') := by
        obtain ⟨j1, j2⟩ := unhide i1
        obtain ⟨j3, j4⟩ := unhide i2
        obtain ⟨j5, j6⟩ := unhide i3
        refine (do54_57 b g D (D.S.set F t) D.E _ _ hD2 ?_).mono (fun e w' h => h)
        intro D1 w1 hS1 hE1 hN1 h1 k1
        refine (swap57 pt pd pf b g D1 F t w1 h1 (by rw [hS1]; exact hFl) ((unhide hbt2).kept k1 (by simpa using j5)) (k1.cell hd2 (by simpa using j1)) (k1.cell (unhide hf2) (by simpa using j3)) j6 j2 j4).mono ?_
        rintro e w2 ⟨rfl, h2, k2⟩
        refine ⟨rfl, ?_, k2.mono (by simp)⟩
        rw [← hS1, ← hE1]
        exact h2
      go_wp2_with (go_at_call 115; go_must (refine (unhide hDo).mono ?_; rintro e w1 ⟨rfl, hd1, hk1⟩))
      go_ret2
      exact ⟨rfl, hd1, ((unhide hk2).mono (by simp)).trans hk1⟩
    · rw [if_neg he]
      have hdec : Hid ((!decide (D.S[F] = s)) = true) := by simpa [Hid] using he
      clear he
      go_enter Tryz.func153, Tryz.ntmps153
      go_wp2_with (first | (refine wpBoxS rfl (.tmp 4) rfl s rfl ?_) | (refine wpBoxS rfl (.tmp 5) rfl t rfl ?_))
      change Code.wp _ _ _ _ (swapW w (.pointer (some ⟨b, 0, none⟩)) F s t)
      generalize swapW w (.pointer (some ⟨b, 0, none⟩)) F s t = W at *
      go_quiet ((first | (go_at_call 129; exact Calls.quiet_of_same (has_is _ _ _ _ _ (hD.drewN _).sz hD.ok.s1 hf true (unhide HS))) | (go_at_call 128; go_must (exact Calls.quiet_of_same (ref_is _ _ _ _ _ _ _ (hD.drewN _) 0 (unhide HZ))))))
      go_wp2
      have hd1 : (W.drewN nq).cell? ⟨w.heap.size, 0, none⟩ = some (.pointer (some ⟨b, 0, none⟩)) := hd
      have hff1 : (W.drewN nq).cell? ⟨w.heap.size + 1, 0, none⟩ = some (.int .i64 F) := hff
      have hc01 : (W.drewN nq).cell? ⟨b, 0, none⟩ = some (.slice (some ⟨g, 0, none⟩) D.S.length cap) := hc0
      have hrF1 : (W.drewN nq).rangeAt g (F * 64) (u8s D.S[F]) := hrF
      have hrs1 : (W.drewN nq).rangeAt (w.heap.size + 1 + 1) 0 (u8s s) := hrs
      have hD1 := hD.drewN nq
      have hbt1 : Hid (Box (W.drewN nq) (w.heap.size + 1 + 1 + 1) t) := (unhide hbt).kept (X := []) ((Kept.refl _ _).drewN _) (by simp)
      have hk1 : Kept [] w (W.drewN nq) := hk.drewN nq
      have i1 : Hid (w.heap.size ≠ b ∧ w.heap.size ≠ g) := ⟨by omega, by omega⟩
      have i2 : Hid (w.heap.size + 1 ≠ b ∧ w.heap.size + 1 ≠ g) := ⟨by omega, by omega⟩
      have i3 : Hid (w.heap.size + 1 + 1 + 1 ≠ b ∧ w.heap.size + 1 + 1 + 1 ≠ g) := ⟨by omega, by omega⟩
      clear hbs hbt hd hff hc0 hrF hrs hD hk hlt
      generalize w.heap.size + 1 + 1 + 1 = pt at *
      generalize w.heap.size + 1 + 1 = ps at *
      generalize w.heap.size + 1 = pf at *
      generalize w.heap.size = pd at *
      generalize W.drewN nq = W1 at *
      refine wp_region_quiet_lit (by kernel_rfl) (by kernel_rfl) ?_
      repeat (first | (refine quietLoadS rfl (.tmp 30) rfl g (F * 64) rfl D.S[F] hsecF (by rintro _ ⟨_, rfl⟩; exact hrF1) ?_) | (refine quietLoadS rfl (.tmp 10) rfl ps 0 rfl s hs (by rintro _ ⟨_, rfl⟩; exact hrs1) ?_) | (refine quietNeqS rfl (.tmp 31) (.tmp 32) _ rfl D.S[F] s rfl rfl hsecF hs _ (unhide hdec) ?_) | quiet_step (fail))
      refine wpQuiet_nil ?_
      intro _ hw'
      obtain ⟨nq2, hw''⟩ := hw'
      subst hw''
      have hd2 : (W1.drewN nq2).cell? ⟨pd, 0, none⟩ = some (.pointer (some ⟨b, 0, none⟩)) := hd1
      have hD2 := hD1.drewN nq2
      have hf2 : Hid ((W1.drewN nq2).cell? ⟨pf, 0, none⟩ = some (.int .i64 F)) := hff1
      have hbt2 : Hid (Box (W1.drewN nq2) pt t) := (unhide hbt1).kept (X := []) ((Kept.refl _ _).drewN _) (by simp)
      have hk2 : Hid (Kept [] w (W1.drewN nq2)) := hk1.drewN nq2
      clear hd1 hD1 hff1 hbt1 hk1 hc01 hrF1 hrs1 hn hg
      generalize W1.drewN nq2 = W2 at *
      go_wp2_with fail
      go_ret2
      exact ⟨rfl, hD2, (unhide hk2).mono (by simp)⟩
  · have hU : D.swap x ep f s t = (false, D.ref x ep (hasS D.S.length f 1), D) := by simp [Dev.swap, hz]
    rw [hU]
    have hne : (D.ref x ep (hasS D.S.length f 1) != 0) = true := by simpa using hz
    clear hU
    go_enter Tryz.func153, Tryz.ntmps153
    go_wp2_with (first | (refine wpBoxS rfl (.tmp 4) rfl s rfl ?_) | (refine wpBoxS rfl (.tmp 5) rfl t rfl ?_))
    change Code.wp _ _ _ _ (swapW w (.pointer (some ⟨b, 0, none⟩)) f s t)
    generalize swapW w (.pointer (some ⟨b, 0, none⟩)) f s t = W at *
    go_quiet ((first | (go_at_call 129; exact Calls.quiet_of_same (hasSectors53 _ _ _ _ _ (hD.drewN _).sz hD.ok.s1 hf)) | (go_at_call 128; go_must (exact Calls.quiet_of_same (refusal52 _ _ _ _ _ _ _ (hD.drewN _))))))
    go_wp2
    try rw [Exit.noGoto_ret]
    go_ret2
    exact ⟨rfl, hD.drewN _, (hk.mono (by simp)).drewN _⟩

end Go.Proofs.YtcfflbafclmheaaGreatDoor.Dv

/-
  The walk of New.
-/
namespace Go.Proofs.YtcfflbafclmheaaGreatDoor.Dv
open Go.RowKit

/-- So many sectors of noughts. -/
def noughts (n : Nat) : List (List Int) := List.replicate n nought
theorem noughts_len (n : Nat) : (noughts n).length = n := by simp [noughts]
theorem noughts_sec (n : Nat) : ∀ s ∈ noughts n, Sec s := fun s hs => by rw [List.eq_of_mem_replicate hs]; exact nought_sec
theorem noughts_flat (n : Nat) : (noughts n).flatten = List.replicate (n * 64) 0 := by
  unfold noughts nought
  induction n with
  | zero => rfl
  | succ n ih => rw [List.replicate_succ, List.flatten_cons, ih, List.replicate_append_replicate]; congr 1; omega

theorem made_same (m : Nat) (v : Value) (n : Nat) (hm : 0 < m) : madeCells (List.replicate m v).toArray n = (List.replicate n v).toArray := by
  apply Array.ext
  · rw [size_madeCells]; simp
  · intro i h1 h2
    have h3 : i % m < m := Nat.mod_lt _ hm
    simp [madeCells, h3]
theorem made_noughts (n : Nat) : madeCells (u8s nought).toArray (n * 64) = (u8s (noughts n).flatten).toArray := by
  have h1 : u8s nought = List.replicate 64 (Value.int .u8 0) := by unfold u8s nought; rw [List.map_replicate]
  have h2 : u8s (noughts n).flatten = List.replicate (n * 64) (Value.int .u8 0) := by unfold u8s; rw [noughts_flat, List.map_replicate]
  rw [h1, h2, made_same _ _ _ (by decide)]

theorem Tryz.zero38 : (Tryz.prog.info? 59).map (fun i => (i.zero, i.size, i.bytes)) = some (some (secV nought), 64, 64) := by kernel_rfl

theorem wpMakeS {ops : Array Oper} {rest : List Oper} {op : Oper} {a : Act} {w : World} {Q : Exit → Act → World → Prop} (hgd : op.guard = none) (x y : Operand) (ho : op.op = .makeSlice 60 x y) (n : Nat) (hx : a.eval x = .int .i64 n) (hy : a.eval y = .int .i64 n) (hn : n ≤ 2199023255552)
    (h : wpList Tryz.prog ops Q rest (a.put op.dst (.slice (some ⟨w.heap.size, 0, none⟩) n n)) (w.alloc (.cells (u8s (noughts n).flatten).toArray 59))) : wpList Tryz.prog ops Q (op :: rest) a w := by
  obtain ⟨i0, hi, hz0, hz1, hz2⟩ := info_parts Tryz.zero38
  have hr := run_make (P := Tryz.prog) w 60 59 i0 (secV nought) Tryz.underlying60 hi hz0 .i64 .i64 n n (by omega) (by omega) (by rw [hz2]; omega) (by omega)
  have hc : (secV nought).cells = (u8s nought).toArray := rfl
  rw [hz1, Int.toNat_natCast, hc, made_noughts] at hr
  refine wpList_plain hgd fun K hK => ?_
  unfold Oper.wp execOp
  simp only [ho, hx, hy, Sem.run_bind, hr, Result.andThen_ok]
  exact hK _ _ h

/-- A device of noughts. -/
def newDev (n N : Nat) : Dev := ⟨noughts n, N, List.replicate 8 0, 0, false, 0, false⟩
theorem newDev_ok {n N : Nat} (h : 1 ≤ n ∧ n ≤ 4096) (hN : 1 ≤ N ∧ N ≤ 8) : (newDev n N).Ok :=
  ⟨by simp [newDev, noughts_len]; omega, by simp [newDev, noughts_len]; omega, noughts_sec n, hN.1, hN.2, rfl, fun e he => by rw [List.eq_of_mem_replicate he]; omega, by simp [newDev]⟩

/-- May a device have so many sectors and nodes? -/
def newB (x y : Int) : Bool := decide ((1 ≤ x ∧ x ≤ 4096) ∧ 1 ≤ y ∧ y ≤ 8)

theorem new_no (x y : Int) (w : World) (h : newB x y = false) : Calls Tryz.prog 29 #[.int .i64 x, .int .i64 y] w fun e w' => e = .returned (.tuple #[.pointer none, .int .i64 2]) ∧ w' = w := by
  have h' : ¬ ((1 ≤ x ∧ x ≤ 4096) ∧ 1 ≤ y ∧ y ≤ 8) := by simpa [newB] using h
  have h1 := from29 1 x 4096 w
  have h2 := from29 1 y 8 w
  by_cases hx : 1 ≤ x ∧ x ≤ 4096
  · have e1 : decide (1 ≤ x ∧ x ≤ 4096) = true := by simpa using hx
    have e2 : decide (1 ≤ y ∧ y ≤ 8) = false := by simp; omega
    rw [e1] at h1
    rw [e2] at h2
    have H1 := hide h1
    have H2 := hide h2
    clear h h' h1 h2 e1 e2 hx
    go_enter Tryz.func29, Tryz.ntmps29
    go_wp2_with (go_at_call 62; first | (refine (unhide H1).mono ?_; rintro e w' ⟨rfl, rfl⟩; clear H1) | (refine (unhide H2).mono ?_; rintro e w' ⟨rfl, rfl⟩; clear H2))
    go_ret2
    exact ⟨rfl, rfl⟩
  · have e1 : decide (1 ≤ x ∧ x ≤ 4096) = false := by simp; omega
    rw [e1] at h1
    have H1 := hide h1
    clear h h' h1 h2 e1 hx
    go_enter Tryz.func29, Tryz.ntmps29
    go_wp2_with (go_at_call 62; first | (refine (unhide H1).mono ?_; rintro e w' ⟨rfl, rfl⟩; clear H1))
    go_ret2
    exact ⟨rfl, rfl⟩

set_option maxHeartbeats 1000000 in
theorem new_yes (n N : Nat) (w : World) (h : newB n N = true) : Calls Tryz.prog 29 #[.int .i64 n, .int .i64 N] w fun e w' => ∃ b g, e = .returned (.tuple #[.pointer (some ⟨b, 0, none⟩), .int .i64 0]) ∧ w.heap.size ≤ b ∧ w.heap.size ≤ g ∧ Dv w' b g (newDev n N) ∧ Kept [] w w' := by
  have h' : (1 ≤ (n : Int) ∧ (n : Int) ≤ 4096) ∧ 1 ≤ (N : Int) ∧ (N : Int) ≤ 8 := by simpa [newB] using h
  have h1 := from29 1 n 4096 w
  have h2 := from29 1 N 8 w
  have e1 : decide (1 ≤ (n : Int) ∧ (n : Int) ≤ 4096) = true := by simpa using h'.1
  have e2 : decide (1 ≤ (N : Int) ∧ (N : Int) ≤ 8) = true := by simpa using h'.2
  rw [e1] at h1
  rw [e2] at h2
  have H1 := hide h1
  have H2 := hide h2
  clear h h1 h2 e1 e2
  go_enter Tryz.func29, Tryz.ntmps29
  go_wp2_with (first | (go_at_call 62; first | (refine (unhide H1).mono ?_; rintro e w' ⟨rfl, rfl⟩; clear H1) | (refine (unhide H2).mono ?_; rintro e w' ⟨rfl, rfl⟩; clear H2)) | (refine wpMakeS rfl (.tmp 14) (.tmp 14) rfl n rfl rfl (by omega) ?_))
  go_ret2
  refine ⟨w'.heap.size + 1, w'.heap.size, rfl, by omega, by omega, ⟨newDev_ok (by omega) (by omega), by omega, n, ?_, [], ?_, ?_, ?_, ?_⟩, ((Kept.refl _ _).alloc _).alloc _⟩
  · unfold Head
    rw [heap_new (by simp)]
    simp [devCells, newDev, noughts_len]
  · rw [List.append_nil]; exact heap_alloc_old (heap_new rfl)
  · simp [newDev, noughts_len]
  · simp [newDev, noughts_len]
  · unfold maxLen; omega

end Go.Proofs.YtcfflbafclmheaaGreatDoor.Dv

/-
  A region that draws its order, whose first operations only look, call or make new memory, and whose last ones wait for all of these: whatever the order, the first ones end as by the text's.
-/
namespace Go.Proofs.YtcfflbafclmheaaGreatDoor.Ar
set_option maxRecDepth 100000
open Go.RowKit

/-- Values laid into the slots of operations, one behind the other. -/
def putAll (a : Act) : List Oper → List Value → Act
  | o :: os, v :: vs => putAll (a.put o.dst v) os vs
  | _, _ => a

/-- An operation waits for another one, by at most so many steps. -/
def reaches (ops : Array Oper) (i : Nat) : Nat → Oper → Bool
  | 0, _ => false
  | f + 1, o => o.after.any (fun e => Region.binds .any e && (e.on == i || (match ops[e.on]? with
    | none => false
    | some p => reaches ops i f p)))

/-- What is asked of a region: the first n operations have no guards, each waits for earlier ones alone, each has a slot of its own; each of the others waits for all of them. -/
def prefOK (ops : Array Oper) (n : Nat) : Bool :=
  decide (n ≤ ops.size) && (List.range n).all (fun j => match ops[j]? with
    | none => false
    | some o => o.guard.isNone && o.dst.isSome && o.after.all (fun e => decide (e.on < j)) && (List.range j).all (fun i => match ops[i]? with
      | none => false
      | some p => p.dst != o.dst)) &&
  (List.range ops.size).all (fun j => decide (j < n) || (match ops[j]? with
    | none => false
    | some o => (List.range n).all (fun i => reaches ops i 6 o)))

section
variable {P : Program} {ops : Array Oper} {Q : Exit → Act → World → Prop}

structure PrefOK (ops : Array Oper) (n : Nat) : Prop where
  le : n ≤ ops.size
  guard : ∀ (j : Nat) (o : Oper), j < n → ops[j]? = some o → o.guard = none
  dst : ∀ (j : Nat) (o : Oper), j < n → ops[j]? = some o → ∃ t, o.dst = some t
  back : ∀ (j : Nat) (o : Oper), j < n → ops[j]? = some o → ∀ e ∈ o.after, e.on < j
  apart : ∀ (i j : Nat) (p o : Oper), i < n → j < n → ops[i]? = some p → ops[j]? = some o → i ≠ j → p.dst ≠ o.dst
  wait : ∀ (j i : Nat) (o : Oper), n ≤ j → i < n → ops[j]? = some o → reaches ops i 6 o = true

theorem prefOK_spec {n : Nat} (h : prefOK ops n = true) : PrefOK ops n := by
  unfold prefOK at h
  rw [Bool.and_eq_true, Bool.and_eq_true] at h
  obtain ⟨⟨h0, h1⟩, h2⟩ := h
  have h0 := of_decide_eq_true h0
  rw [List.all_eq_true] at h1 h2
  have g1 : ∀ (j : Nat) (o : Oper), j < n → ops[j]? = some o → (o.guard.isNone && o.dst.isSome && o.after.all (fun e => decide (e.on < j)) && (List.range j).all (fun i => match ops[i]? with
      | none => false
      | some p => p.dst != o.dst)) = true := by
    intro j o hj ho
    have := h1 j (List.mem_range.2 hj)
    rw [ho] at this
    exact this
  have lt : ∀ (i j : Nat) (p o : Oper), j < n → ops[i]? = some p → ops[j]? = some o → i < j → p.dst ≠ o.dst := by
    intro i j p o hj hp ho hij
    have := g1 j o hj ho
    rw [Bool.and_eq_true, List.all_eq_true] at this
    have := this.2 i (List.mem_range.2 hij)
    rw [hp] at this
    simpa using this
  refine ⟨h0, ?_, ?_, ?_, ?_, ?_⟩
  · intro j o hj ho
    have := g1 j o hj ho
    simp only [Bool.and_eq_true] at this
    exact Option.isNone_iff_eq_none.1 this.1.1.1
  · intro j o hj ho
    have := g1 j o hj ho
    simp only [Bool.and_eq_true] at this
    exact Option.isSome_iff_exists.1 this.1.1.2
  · intro j o hj ho e he
    have := g1 j o hj ho
    simp only [Bool.and_eq_true] at this
    have := (Array.all_eq_true_iff_forall_mem.1 this.1.2) e he
    simpa using this
  · intro i j p o hi hj hp ho hne
    rcases Nat.lt_or_gt_of_ne hne with h | h
    · exact lt i j p o hj hp ho h
    · exact (lt j i o p hi ho hp h).symm
  · intro j i o hj hi ho
    have := h2 j (List.mem_range.2 (Array.getElem?_eq_some_iff.1 ho).1)
    rw [ho, decide_eq_false (by omega), Bool.false_or] at this
    simp only [List.all_eq_true] at this
    exact this i (List.mem_range.2 hi)

theorem reaches_listed {n i : Nat} {listed : Array Bool} (h6 : ∀ j, n ≤ j → listed.getD j false = false) (h7 : ∀ (j : Nat) (o : Oper), j < n → ops[j]? = some o → listed.getD j false = true → ∀ e ∈ o.after, Region.binds .any e = true → listed.getD e.on false = true) :
    ∀ (f : Nat) (o : Oper), reaches ops i f o = true → (∀ e ∈ o.after, Region.binds .any e = true → listed.getD e.on false = true) → listed.getD i false = true := by
  intro f
  induction f with
  | zero => intro o h _; simp [reaches] at h
  | succ f ih =>
    intro o h hl
    simp only [reaches, Array.any_eq_true'] at h
    obtain ⟨e, he, hb⟩ := h
    simp only [Bool.and_eq_true, Bool.or_eq_true, beq_iff_eq] at hb
    have hle := hl e he hb.1
    rcases hb.2 with rfl | h2
    · exact hle
    · cases hp : ops[e.on]? with
      | none => rw [hp] at h2; simp at h2
      | some p =>
        rw [hp] at h2
        by_cases hen : e.on < n
        · exact ih p h2 (h7 e.on p hen hp hle)
        · have := h6 e.on (by omega)
          rw [this] at hle
          cases hle

theorem put_other (a : Act) (d : Option Tmp) (v : Value) (t : Nat) (h : d ≠ some t) : (a.put d v).tmps[t]? = a.tmps[t]? := by
  cases d with
  | none => rfl
  | some d =>
    simp only [Act.put]
    rw [Array.getElem?_setIfInBounds_ne (by intro e; exact h (by rw [e]))]

theorem put_same (a : Act) (t : Nat) (v : Value) (h : t < a.tmps.size) : (a.put (some t) v).tmps[t]? = some v := by
  simp [Act.put, h]
theorem put_size (a : Act) (d : Option Tmp) (v : Value) : (a.put d v).tmps.size = a.tmps.size := by cases d <;> simp [Act.put]
theorem put_defers (a : Act) (d : Option Tmp) (v : Value) : (a.put d v).defers = a.defers := by cases d <;> rfl

theorem putAll_other : ∀ (os : List Oper) (vs : List Value) (a : Act) (t : Nat), (∀ o ∈ os, o.dst ≠ some t) → (putAll a os vs).tmps[t]? = a.tmps[t]? := by
  intro os
  induction os with
  | nil => intro vs a t _; rfl
  | cons o os ih =>
    intro vs a t h
    cases vs with
    | nil => rfl
    | cons v vs => rw [putAll, ih _ _ _ (fun p hp => h p (List.mem_cons_of_mem _ hp)), put_other _ _ _ _ (h o (List.mem_cons_self ..))]
theorem putAll_size : ∀ (os : List Oper) (vs : List Value) (a : Act), (putAll a os vs).tmps.size = a.tmps.size ∧ (putAll a os vs).defers = a.defers := by
  intro os
  induction os with
  | nil => intro vs a; exact ⟨rfl, rfl⟩
  | cons o os ih =>
    intro vs a
    cases vs with
    | nil => exact ⟨rfl, rfl⟩
    | cons v vs => rw [putAll]; exact ⟨(ih _ _).1.trans (put_size _ _ _), (ih _ _).2.trans (put_defers _ _ _)⟩
theorem putAll_same : ∀ (os : List Oper) (vs : List Value) (a : Act) (j : Nat) (o : Oper) (v : Value) (t : Nat), os[j]? = some o → vs[j]? = some v → o.dst = some t → t < a.tmps.size →
    (∀ (i j : Nat) (p q : Oper), os[i]? = some p → os[j]? = some q → i ≠ j → p.dst ≠ q.dst) → (putAll a os vs).tmps[t]? = some v := by
  intro os
  induction os with
  | nil => intro vs a j o v t h; simp at h
  | cons p os ih =>
    intro vs a j o v t ho hv ht hlt hap
    cases vs with
    | nil => simp at hv
    | cons u vs =>
      rw [putAll]
      cases j with
      | zero =>
        simp at ho hv
        subst ho hv
        rw [putAll_other _ _ _ _ ?_, ht, put_same _ _ _ hlt]
        intro q hq
        obtain ⟨k, hk⟩ := List.getElem?_of_mem hq
        have := hap 0 (k + 1) p q rfl (by simpa using hk) (by omega)
        rw [ht] at this
        exact fun e => this e.symm
      | succ j =>
        exact ih vs _ j o v t (by simpa using ho) (by simpa using hv) ht (by rw [put_size]; exact hlt)
          (fun i k p' q' h1 h2 hne => hap (i + 1) (k + 1) p' q' (by simpa using h1) (by simpa using h2) (by omega))

theorem unlisted_set {listed : Array Bool} {i : Nat} (hi : listed.getD i true = false) : ((listed.setIfInBounds i true).toList.filter (fun b => !b)).length < (listed.toList.filter (fun b => !b)).length := by
  have hlt : i < listed.toList.length := by
    simp only [Array.getD] at hi
    split at hi
    · simpa using ‹_›
    · simp at hi
  have hv : listed.toList[i] = false := by
    simp only [Array.getD] at hi
    rw [dif_pos (by simpa using hlt)] at hi
    simpa using hi
  have h1 : (listed.setIfInBounds i true).toList = listed.toList.take i ++ true :: listed.toList.drop (i + 1) := by
    rw [Array.toList_setIfInBounds, List.set_eq_take_append_cons_drop, if_pos hlt]
  have h2 : listed.toList = listed.toList.take i ++ false :: listed.toList.drop (i + 1) := by
    conv => lhs; rw [← List.take_append_drop i listed.toList]
    rw [List.drop_eq_getElem_cons hlt, hv]
  rw [h1]
  conv => rhs; rw [h2]
  simp [List.filter_append]

theorem unlisted_set' {listed : Array Bool} {i : Nat} (hi : listed.getD i true = false) (hl : i < listed.size) : ((listed.setIfInBounds i true).toList.filter (fun b => !b)).length + 1 = (listed.toList.filter (fun b => !b)).length := by
  obtain ⟨l⟩ := listed
  simp only [List.size_toArray] at hl
  have hx : l[i] = false := by simpa [Array.getD, hl] using hi
  have e : l = l.take i ++ false :: l.drop (i + 1) := by rw [← hx]; simp
  have e2 : ((l.toArray.setIfInBounds i true).toList) = l.take i ++ true :: l.drop (i + 1) := by
    rw [List.setIfInBounds_toArray, List.set_eq_take_append_cons_drop, if_pos hl]
  rw [e2]
  simp only [] at *
  conv => rhs; rw [e]
  simp [List.filter_append]
  omega


/-- n listed, the others not. -/
def lists (n m : Nat) : Array Bool := (List.replicate n true ++ List.replicate (m - n) false).toArray

/-- The theorem: F says what is known of each operation's value, E what of two values, the second of which came later. -/
theorem wp_region_prefix {id : Nat} {a0 : Act} {w0 : World} (hm : P.follows .mixedOrders = true) (n r : Nat) (hnr : ops.size = n + r) (hok : prefOK ops n = true) (F : Nat → Value → World → Prop) (E : Nat → Nat → Value → Value → Prop)
    (hF : ∀ j v w w', F j v w → Kept [] w w' → F j v w') (hsl : ops.all (fun o => match o.dst with | none => true | some t => decide (t < a0.tmps.size)) = true)
    (hop : ∀ (j : Nat) (o : Oper), j < n → ops[j]? = some o → ∀ a w, (∀ t : Nat, (ops.toList.take n).all (fun p => p.dst != some t) = true → a.eval (.tmp t) = a0.eval (.tmp t)) →
      (∀ (i t : Nat), o.after.any (fun e => Region.binds .any e && e.on == i) = true → ops[i]?.bind (·.dst) = some t → F i (a.eval (.tmp t)) w) → Kept [] w0 w →
      o.wp P a w (fun a' w' => ∃ v, a' = a.put o.dst v ∧ F j v w' ∧ Kept [] w w' ∧ ∀ i u, i < n → i ≠ j → F i u w → E i j u v) Q)
    (hQ : ∀ (vs : List Value) w, vs.length = n → (∀ (j : Nat) v, vs[j]? = some v → F j v w) → (∀ (i j : Nat) u v, i ≠ j → vs[i]? = some u → vs[j]? = some v → E i j u v ∨ E j i v u) → Kept [] w0 w → wpAny P .any ops Q r (lists n (n + r)) (putAll a0 (ops.toList.take n) vs) w) :
    (Code.region id ops true).wp P Q a0 w0 := by
  have K := prefOK_spec hok
  have hsl' : ∀ o ∈ ops, ∀ t, o.dst = some t → t < a0.tmps.size := by
    intro o ho t ht
    have := (Array.all_eq_true_iff_forall_mem.1 hsl) o ho
    rw [ht] at this
    simpa using this
  have hmemT : ∀ o, o ∈ ops.toList.take n ↔ ∃ j, j < n ∧ ops[j]? = some o := by
    intro o
    rw [List.mem_iff_getElem?]
    constructor
    · rintro ⟨j, hj⟩
      have hjn : j < n := by
        have := (List.getElem?_eq_some_iff.1 hj).1
        rw [List.length_take] at this
        omega
      rw [List.getElem?_take_of_lt hjn] at hj
      exact ⟨j, hjn, by simpa using hj⟩
    · rintro ⟨j, hjn, hj⟩
      exact ⟨j, by rw [List.getElem?_take_of_lt hjn]; simpa using hj⟩
  refine wp_region_any hm ?_
  let I : Array Bool → Act → World → Prop := fun listed a w =>
    listed.size = ops.size ∧ a.defers = a0.defers ∧ a.tmps.size = a0.tmps.size ∧ (∀ t, (∀ p ∈ ops.toList.take n, p.dst ≠ some t) → a.tmps[t]? = a0.tmps[t]?) ∧
    (∀ (j : Nat) (o : Oper) (t : Nat), j < n → ops[j]? = some o → o.dst = some t → listed.getD j false = true → ∃ v, a.tmps[t]? = some v ∧ F j v w) ∧
    (∀ j, n ≤ j → listed.getD j false = false) ∧ (∀ (j : Nat) (o : Oper), j < n → ops[j]? = some o → listed.getD j false = true → ∀ e ∈ o.after, Region.binds .any e = true → listed.getD e.on false = true) ∧ (∀ (i j : Nat) (p o : Oper) (s t : Nat) (u v : Value), i < n → j < n → i ≠ j → ops[i]? = some p → ops[j]? = some o → p.dst = some s → o.dst = some t → listed.getD i false = true → listed.getD j false = true → a.tmps[s]? = some u → a.tmps[t]? = some v → E i j u v ∨ E j i v u) ∧ Kept [] w0 w
  have main : ∀ fuel listed a w, I listed a w → (listed.toList.filter (fun b => !b)).length = fuel → wpAny P .any ops Q fuel listed a w := by
    have hend : ∀ fuel listed a w, I listed a w → (listed.toList.filter (fun b => !b)).length = fuel → (∀ j, j < n → listed.getD j false = true) → wpAny P .any ops Q fuel listed a w := by
      intro fuel listed a w hI hfu hl
      obtain ⟨i1, i2, i3, i4, i5, i6, i7, i9, i8⟩ := hI
      have hlist : listed = lists n ops.size := by
        apply Array.ext_getElem?
        intro j
        by_cases hj : j < ops.size
        · have e : listed[j]? = some (listed.getD j false) := by simp [Array.getD, i1, hj]
          rw [e]
          unfold lists
          rw [List.getElem?_toArray]
          by_cases hjn : j < n
          · rw [hl j hjn, List.getElem?_append_left (by simpa using hjn), List.getElem?_replicate_of_lt hjn]
          · rw [i6 j (by omega), List.getElem?_append_right (by simp; omega), List.getElem?_replicate_of_lt (by simp; omega)]
        · rw [Array.getElem?_eq_none (by omega), Array.getElem?_eq_none (by have := K.le; simp [lists]; omega)]
      have hfuel : fuel = ops.size - n := by
        rw [← hfu, hlist]
        simp [lists, List.filter_append]
      have hval : ∀ (j : Nat), ∃ v, ∀ (o : Oper) (t : Nat), j < n → ops[j]? = some o → o.dst = some t → a.tmps[t]? = some v ∧ F j v w := by
        intro j
        by_cases hj : j < n
        · have hjs : j < ops.size := Nat.lt_of_lt_of_le hj K.le
          obtain ⟨t, ht⟩ := K.dst j ops[j] hj (Array.getElem?_eq_getElem hjs)
          obtain ⟨v, hv, hf⟩ := i5 j _ t hj (Array.getElem?_eq_getElem hjs) ht (hl j hj)
          refine ⟨v, fun o t' _ ho ht' => ?_⟩
          rw [Array.getElem?_eq_getElem hjs] at ho
          cases ho
          rw [ht] at ht'
          cases ht'
          exact ⟨hv, hf⟩
        · exact ⟨undef, fun o t hj' _ _ => absurd hj' hj⟩
      obtain ⟨f, hf⟩ := Classical.axiomOfChoice hval
      have hvs : ∀ (j : Nat) v, ((List.range n).map f)[j]? = some v → j < n ∧ v = f j := by
        intro j v hv
        rw [List.getElem?_map] at hv
        by_cases hj : j < n
        · rw [List.getElem?_range hj] at hv
          exact ⟨hj, by simpa using hv.symm⟩
        · rw [List.getElem?_eq_none (by simpa using hj)] at hv
          simp at hv
      have hQ' := hQ ((List.range n).map f) w (by simp) (fun j v hv => by
        obtain ⟨hj, rfl⟩ := hvs j v hv
        have hjs : j < ops.size := Nat.lt_of_lt_of_le hj K.le
        obtain ⟨t, ht⟩ := K.dst j ops[j] hj (Array.getElem?_eq_getElem hjs)
        exact (hf j _ t hj (Array.getElem?_eq_getElem hjs) ht).2) (fun i j u v hne hu hv => by
        obtain ⟨hi, rfl⟩ := hvs i u hu
        obtain ⟨hj, rfl⟩ := hvs j v hv
        have his : i < ops.size := Nat.lt_of_lt_of_le hi K.le
        have hjs : j < ops.size := Nat.lt_of_lt_of_le hj K.le
        obtain ⟨s, hs⟩ := K.dst i ops[i] hi (Array.getElem?_eq_getElem his)
        obtain ⟨t, ht⟩ := K.dst j ops[j] hj (Array.getElem?_eq_getElem hjs)
        exact i9 i j _ _ s t _ _ hi hj hne (Array.getElem?_eq_getElem his) (Array.getElem?_eq_getElem hjs) hs ht (hl i hi) (hl j hj) (hf i _ s hi (Array.getElem?_eq_getElem his) hs).1 (hf j _ t hj (Array.getElem?_eq_getElem hjs) ht).1) i8
      have hsame : putAll a0 (ops.toList.take n) ((List.range n).map f) = a := by
        have hsz := putAll_size (ops.toList.take n) ((List.range n).map f) a0
        have htm : (putAll a0 (ops.toList.take n) ((List.range n).map f)).tmps = a.tmps := by
          apply Array.ext_getElem?
          intro t
          by_cases hex : ∃ (j : Nat) (o : Oper), j < n ∧ ops[j]? = some o ∧ o.dst = some t
          · obtain ⟨j, o, hj, ho, ht⟩ := hex
            rw [(hf j o t hj ho ht).1]
            refine putAll_same (ops.toList.take n) _ a0 j o (f j) t (by rw [List.getElem?_take_of_lt hj]; simpa using ho) (by rw [List.getElem?_map, List.getElem?_range hj]; rfl) ht (hsl' o (Array.mem_of_getElem? ho) t ht) ?_
            intro i k p q hp hq hne
            have hin : i < n := by
              have := (List.getElem?_eq_some_iff.1 hp).1
              rw [List.length_take] at this; omega
            have hkn : k < n := by
              have := (List.getElem?_eq_some_iff.1 hq).1
              rw [List.length_take] at this; omega
            rw [List.getElem?_take_of_lt hin] at hp
            rw [List.getElem?_take_of_lt hkn] at hq
            exact K.apart i k p q hin hkn (by simpa using hp) (by simpa using hq) hne
          · have hno : ∀ p ∈ ops.toList.take n, p.dst ≠ some t := by
              intro p hp e
              obtain ⟨j, hj, hpj⟩ := (hmemT p).1 hp
              exact hex ⟨j, p, hj, hpj, e⟩
            rw [putAll_other _ _ _ _ hno, i4 t hno]
        have hdf := hsz.2.trans i2.symm
        generalize putAll a0 (ops.toList.take n) ((List.range n).map f) = A at *
        obtain ⟨x1, x2⟩ := A
        obtain ⟨y1, y2⟩ := a
        simp only at htm hdf
        subst htm hdf
        rfl
      rw [hnr, Nat.add_sub_cancel_left] at hfuel
      rw [hnr] at hlist
      rw [hsame, ← hlist, ← hfuel] at hQ'
      exact hQ'
    intro fuel
    induction fuel with
    | zero =>
      intro listed a w hI hfu
      refine hend 0 listed a w hI hfu (fun j hj => ?_)
      obtain ⟨i1, _⟩ := hI
      have hjs : j < listed.size := by rw [i1]; exact Nat.lt_of_lt_of_le hj K.le
      cases hl : listed.getD j false with
      | true => rfl
      | false =>
        exfalso
        have hmem : false ∈ listed.toList.filter (fun b => !b) := by
          rw [List.mem_filter]
          refine ⟨?_, rfl⟩
          simp only [Array.getD, hjs, dif_pos] at hl
          rw [← hl]
          exact Array.getElem_mem_toList hjs
        rw [List.length_eq_zero_iff] at hfu
        rw [hfu] at hmem
        simp at hmem
    | succ fuel ih =>
      intro listed a w hI hfu
      by_cases hfull : ∀ j, j < n → listed.getD j false = true
      · exact hend _ listed a w hI hfu hfull
      obtain ⟨i1, i2, i3, i4, i5, i6, i7, i9, i8⟩ := hI
      have hsome : ∃ j, j < n ∧ listed.getD j false = false ∧ ∀ i, i < j → listed.getD i false = true := by
        have : ∃ j, j < n ∧ listed.getD j false = false := by
          apply Classical.byContradiction
          intro hno
          exact hfull (fun j hj => by
            cases hl : listed.getD j false with
            | true => rfl
            | false => exact absurd ⟨j, hj, hl⟩ hno)
        obtain ⟨j, hj, hl⟩ := this
        induction j using Nat.strongRecOn with
        | _ j ihj =>
          by_cases h : ∀ i, i < j → listed.getD i false = true
          · exact ⟨j, hj, hl, h⟩
          · apply Classical.byContradiction
            intro hno
            exact h (fun i hi => by
              cases hli : listed.getD i false with
              | true => rfl
              | false => exact absurd (ihj i hi (by omega) hli) hno)
      obtain ⟨j0, hj0, hlj0, hbefore⟩ := hsome
      have hne : Region.ready .any ops listed ≠ [] := by
        intro hr
        have hjs : j0 < ops.size := Nat.lt_of_lt_of_le hj0 K.le
        have hmem : j0 ∈ Region.ready .any ops listed := by
          rw [mem_ready]
          refine ⟨?_, ops[j0], Array.getElem?_eq_getElem hjs, fun e he _ => hbefore e.on (K.back j0 _ hj0 (Array.getElem?_eq_getElem hjs) e he)⟩
          simp only [Array.getD] at hlj0 ⊢
          rw [dif_pos (by omega)] at hlj0 ⊢
          exact hlj0
        rw [hr] at hmem
        simp at hmem
      refine ⟨fun h0 => absurd h0 hne, fun i hi => ?_⟩
      rw [mem_ready] at hi
      obtain ⟨r1, o, ho, r2⟩ := hi
      have hio : i < ops.size := (Array.getElem?_eq_some_iff.1 ho).1
      have hil : i < listed.size := by omega
      have hself : ∀ d, (listed.setIfInBounds i true).getD i d = true := by intro d; simp [Array.getD, hil]
      have hin : i < n := by
        apply Classical.byContradiction
        intro h
        have := reaches_listed i6 i7 6 o (K.wait i j0 o (by omega) hj0 ho) r2
        rw [hlj0] at this
        cases this
      unfold wpOp
      rw [ho]
      have hwt : Region.wanted o (yielded ops a.tmps) = true := by simp [Region.wanted, K.guard i o hin ho]
      simp only [hwt, if_true]
      left
      refine Oper.wp_mono ?_ (hop i o hin ho a w ?_ ?_ i8)
      · rintro a' w' ⟨v, rfl, hFv, hk, hE⟩
        refine ih _ _ _ ⟨by simpa using i1, by rw [put_defers]; exact i2, by rw [put_size]; exact i3, ?_, ?_, ?_, ?_, ?_, i8.trans hk⟩ ?_
        · intro t ht
          rw [put_other _ _ _ _ (ht o ((hmemT o).2 ⟨i, hin, ho⟩))]
          exact i4 t ht
        · intro j p t hjn hp ht hlj
          by_cases hji : j = i
          · subst hji
            rw [ho] at hp
            cases hp
            rw [ht]
            exact ⟨v, put_same _ _ _ (by rw [i3]; exact hsl' o (Array.mem_of_getElem? ho) t ht), hFv⟩
          · rw [getD_set_ne _ (fun e => hji e.symm)] at hlj
            obtain ⟨u, hu, hfu'⟩ := i5 j p t hjn hp ht hlj
            refine ⟨u, ?_, hF _ _ _ _ hfu' hk⟩
            rw [put_other _ _ _ _ ?_]
            · exact hu
            · have := K.apart i j o p hin hjn ho hp (fun e => hji e.symm)
              rw [ht] at this
              exact this
        · intro j hj
          rw [getD_set_ne _ (by omega)]
          exact i6 j hj
        · intro j p hjn hp hlj e he hb
          by_cases hji : j = i
          · subst hji
            rw [ho] at hp
            cases hp
            exact getD_set_true (r2 e he hb)
          · rw [getD_set_ne _ (fun e => hji e.symm)] at hlj
            exact getD_set_true (i7 j p hjn hp hlj e he hb)
        · have old : ∀ (j : Nat) (p : Oper) (t : Nat) (u : Value), j < n → j ≠ i → ops[j]? = some p → p.dst = some t → (listed.setIfInBounds i true).getD j false = true → (a.put o.dst v).tmps[t]? = some u → listed.getD j false = true ∧ a.tmps[t]? = some u := by
            intro j p t u hjn hji hp ht hlj hu
            rw [getD_set_ne _ (fun e => hji e.symm)] at hlj
            rw [put_other _ _ _ _ (by have := K.apart i j o p hin hjn ho hp (fun e => hji e.symm); rw [ht] at this; exact this)] at hu
            exact ⟨hlj, hu⟩
          have new : ∀ (q : Oper) (t : Nat) (u : Value), ops[i]? = some q → q.dst = some t → (a.put o.dst v).tmps[t]? = some u → u = v := by
            intro q t u hq ht hu
            rw [ho] at hq
            cases hq
            rw [ht, put_same _ _ _ (by rw [i3]; exact hsl' o (Array.mem_of_getElem? ho) t ht)] at hu
            exact (Option.some.inj hu).symm
          intro j k p q s t u x hjn hkn hne hp hq hs ht hlj hlk hu hx
          by_cases hji : j = i
          · subst hji
            obtain ⟨hlk', hx'⟩ := old k q t x hkn (fun e => hne e.symm) hq ht hlk hx
            obtain rfl := new p s u hp hs hu
            obtain ⟨x', hx2, hfx⟩ := i5 k q t hkn hq ht hlk'
            rw [hx'] at hx2
            cases hx2
            exact .inr (hE k x hkn (fun e => hne e.symm) hfx)
          · obtain ⟨hlj', hu'⟩ := old j p s u hjn hji hp hs hlj hu
            by_cases hki : k = i
            · subst hki
              obtain rfl := new q t x hq ht hx
              obtain ⟨u', hu2, hfu2⟩ := i5 j p s hjn hp hs hlj'
              rw [hu'] at hu2
              cases hu2
              exact .inl (hE j u hjn hji hfu2)
            · obtain ⟨hlk', hx'⟩ := old k q t x hkn hki hq ht hlk hx
              exact i9 j k p q s t u x hjn hkn hne hp hq hs ht hlj' hlk' hu' hx'
        · have := unlisted_set' r1 hil
          omega
      · intro t ht
        have := i4 t (fun p hp => by
          have := (List.all_eq_true.1 ht) p hp
          simpa using this)
        simp only [Act.eval, Array.getD_eq_getD_getElem?, this]
      · intro k t hk hpt
        obtain ⟨p, hp, ht⟩ := Option.bind_eq_some_iff.1 hpt
        simp only [Array.any_eq_true'] at hk
        obtain ⟨e, he, hb⟩ := hk
        simp only [Bool.and_eq_true, beq_iff_eq] at hb
        obtain ⟨hb, rfl⟩ := hb
        have hen : e.on < n := by have := K.back i o hin ho e he; omega
        obtain ⟨v, hv, hf⟩ := i5 e.on p t hen hp ht (r2 e he hb)
        have : a.eval (.tmp t) = v := by simp [Act.eval, Array.getD_eq_getD_getElem?, hv]
        rw [this]
        exact hf
  refine main _ _ _ _ ⟨by simp, rfl, rfl, fun t _ => rfl, ?_, ?_, ?_, ?_, ?_⟩ (by simp)
  · intro j o t hj ho ht hl
    simp [Array.getD, (Array.getElem?_eq_some_iff.1 ho).1] at hl
  · intro j _
    simp [Array.getD]
  · intro j o hj ho hl
    simp [Array.getD, (Array.getElem?_eq_some_iff.1 ho).1] at hl
  · intro i j p o s t u v hi hj hne hp ho hs ht hl
    simp [Array.getD, (Array.getElem?_eq_some_iff.1 hp).1] at hl
  · exact ⟨rfl, rfl, rfl, Nat.le_refl _, fun _ _ _ => rfl⟩
end

end Go.Proofs.YtcfflbafclmheaaGreatDoor.Ar

/-
  Laws for arrays and structs that are loaded, stored, made, boxed and compared as a whole: sectors, halves, bodies, versions, stamps.
-/
namespace Go.Proofs.YtcfflbafclmheaaGreatDoor.Ar
set_option maxRecDepth 100000
open Go.RowKit

/-- A pointer to a block's beginning. -/
abbrev P0 (b : Nat) : Value := .pointer (some ⟨b, 0, none⟩)
/-- Cells as one value. -/
def aggV (vs : List Value) : Value := .agg vs.toArray
/-- The type T is an array or a struct of n cells. -/
def Row (T n : Nat) : Prop := ∃ d, Tryz.prog.underlying T = some d ∧ d.isRow = true ∧ (Tryz.prog.info? T).map (·.size) = some n

/-- A block that has these cells. -/
def Blk (w : World) (b T : Nat) (vs : List Value) : Prop := w.heap[b]? = some (.cells vs.toArray T (0, 0))
theorem Blk.new (w : World) (T : Nat) (vs : List Value) : Blk (w.alloc (.cells vs.toArray T)) w.heap.size T vs := heap_alloc_new w _
theorem Blk.new' {w : World} {T b : Nat} {vs : List Value} (hb : b = w.heap.size) : Blk (w.alloc (.cells vs.toArray T)) b T vs := by subst hb; exact heap_alloc_new w _
theorem Blk.alloc {w : World} {b T : Nat} {vs : List Value} (h : Blk w b T vs) (o : Obj) : Blk (w.alloc o) b T vs := heap_alloc_old h
theorem Blk.lt {w : World} {b T : Nat} {vs : List Value} (h : Blk w b T vs) : b < w.heap.size := lt_of_block h
theorem Blk.kept {w w' : World} {b T : Nat} {vs : List Value} {X : List Nat} (h : Blk w b T vs) (hk : Kept X w w') (hb : b ∉ X) : Blk w' b T vs := hk.heap h hb
theorem Blk.drew {w : World} {b T : Nat} {vs : List Value} (h : Blk w b T vs) : Blk w.drew b T vs := h
theorem Blk.put {w : World} {b T : Nat} {us vs : List Value} (h : Blk w b T us) (hl : us.length = vs.length) : Blk (w.setCells b 0 vs) b T vs := by
  have := heap_sets (b := b) (t := T) (p := (0, 0)) vs w 0 [] us [] (by simpa [Blk] using h) rfl hl
  simpa [Blk] using this
theorem Blk.part {w : World} {b T o : Nat} {pre mid post vs : List Value} (h : Blk w b T (pre ++ mid ++ post)) (ho : pre.length = o) (hl : mid.length = vs.length) : Blk (w.setCells b o vs) b T (pre ++ vs ++ post) :=
  heap_sets vs w o pre mid post h ho hl
theorem Blk.other {w : World} {b b' T o : Nat} {us vs : List Value} (h : Blk w b T us) (hne : b ≠ b') : Blk (w.setCells b' o vs) b T us := by
  unfold Blk; rw [sets_ne _ _ _ _ hne]; exact h
theorem Blk.set {w : World} {b T i : Nat} {us : List Value} (h : Blk w b T us) (v : Value) : Blk (w.setCell ⟨b, i, none⟩ v) b T (us.set i v) := by
  unfold Blk; rw [heap_set h, List.setIfInBounds_toArray]
theorem Blk.set_other {w : World} {b b' T i : Nat} {us : List Value} (h : Blk w b T us) (hne : b ≠ b') (v : Value) : Blk (w.setCell ⟨b', i, none⟩ v) b T us := heap_set_ne h hne
theorem Blk.cell {w : World} {b T : Nat} {us : List Value} (h : Blk w b T us) (i : Nat) : w.cell? ⟨b, i, none⟩ = us[i]? := by rw [cell_of_block h, List.getElem?_toArray]
theorem Blk.frozen {w : World} {b T : Nat} {us : List Value} (h : Blk w b T us) (i : Nat) : w.frozen? ⟨b, i, none⟩ = false := frozen_of_block h i
theorem Blk.range {w : World} {b T : Nat} {us : List Value} (h : Blk w b T us) : w.rangeAt b 0 us := fun j v hj => by rw [Nat.zero_add, h.cell]; exact hj
theorem Blk.rangeIn {w : World} {b T o : Nat} {us : List Value} (h : Blk w b T us) (vs : List Value) (hv : ∀ j, j < vs.length → us[o + j]? = vs[j]?) : w.rangeAt b o vs := fun j v hj => by
  rw [h.cell, hv j (List.getElem?_eq_some_iff.1 hj).1]; exact hj
theorem Blk.there {w : World} {b T o n : Nat} {us : List Value} (h : Blk w b T us) (hn : o + n ≤ us.length) : w.there b o n := fun j hj =>
  ⟨by rw [h.cell, List.getElem?_eq_getElem (by omega)]; rfl, h.frozen _⟩

section
variable {ops : Array Oper} {rest : List Oper} {op : Oper} {a : Act} {w : World} {Q : Exit → Act → World → Prop}

theorem wpLoadA {T n : Nat} (hT : Row T n) (hgd : op.guard = none) (x : Operand) (ho : op.op = .load T x) (b o : Nat) (hx : a.eval x = .pointer (some ⟨b, o, none⟩)) (vs : List Value) (hl : vs.length = n) (hA : w.rangeAt b o vs)
    (h : wpList Tryz.prog ops Q rest (a.put op.dst (aggV vs)) w) : wpList Tryz.prog ops Q (op :: rest) a w := by
  obtain ⟨d, h1, h2, h3⟩ := hT
  exact wpList_load_mid (P := Tryz.prog) hgd T x ho b o hx vs d hA h1 h2 (by rw [hl]; exact h3) h

theorem wpStoreA {T n : Nat} (hT : Row T n) (hgd : op.guard = none) (x y : Operand) (ho : op.op = .store T x y) (b o : Nat) (vs : List Value) (hx : a.eval x = .pointer (some ⟨b, o, none⟩)) (hy : a.eval y = aggV vs) (hl : vs.length = n) (h1 : ∀ v ∈ vs, v.oneCell' = true) (hA : w.there b o n)
    (h : wpList Tryz.prog ops Q rest (a.put op.dst undef) (w.setCells b o vs)) : wpList Tryz.prog ops Q (op :: rest) a w := by
  obtain ⟨d, g1, g2, g3⟩ := hT
  exact wpList_store_mid (P := Tryz.prog) hgd T x y ho b o vs.toArray hx hy (by simpa [hl] using hA) (by simpa [hl] using g3) (all_oneCell_toArray h1) h

theorem wpAllocA {T : Nat} (vs : List Value) (hr : ∀ w : World, (Instr.alloc T true (.tuple #[])).run Tryz.prog w = .ok (P0 w.heap.size) (w.alloc (.cells vs.toArray T))) (hgd : op.guard = none) (ho : op.op = .alloc T)
    (h : wpList Tryz.prog ops Q rest (a.put op.dst (P0 w.heap.size)) (w.alloc (.cells vs.toArray T))) : wpList Tryz.prog ops Q (op :: rest) a w :=
  wpList_plain hgd fun K hK => by
    unfold Oper.wp execOp
    simp only [ho, Sem.run_bind, hr, Result.andThen_ok]
    exact hK _ _ h

theorem wpBuildZ {T : Nat} (vs : List Value) (hr : ∀ w : World, (Instr.build T #[]).run Tryz.prog w = .ok (aggV vs) w) (hgd : op.guard = none) (ho : op.op = .build T #[])
    (h : wpList Tryz.prog ops Q rest (a.put op.dst (aggV vs)) w) : wpList Tryz.prog ops Q (op :: rest) a w :=
  wpList_plain hgd fun K hK => by
    unfold Oper.wp execOp
    simp only [ho, Array.map_empty, Sem.run_bind, hr, Result.andThen_ok]
    exact hK _ _ h

theorem run_boxA (T : Nat) (w : World) (vs : List Value) : (Instr.box T (aggV vs)).run Tryz.prog w = .ok (P0 w.heap.size) (w.alloc (.cells vs.toArray T)) := by
  simp [Instr.box, aggV, newVar, newRow, Value.cells]

theorem wpBoxA {T : Nat} (hgd : op.guard = none) (x : Operand) (ho : op.op = .box T x) (vs : List Value) (hx : a.eval x = aggV vs)
    (h : wpList Tryz.prog ops Q rest (a.put op.dst (P0 w.heap.size)) (w.alloc (.cells vs.toArray T))) : wpList Tryz.prog ops Q (op :: rest) a w :=
  wpList_plain hgd fun K hK => by
    unfold Oper.wp execOp
    simp only [ho, hx, Sem.run_bind, run_boxA, Result.andThen_ok]
    exact hK _ _ h

/-- An operation whose run is known. -/
theorem wpRun (hgd : op.guard = none) (i : Sem Value) (v : Value) (w' : World) (he : ∀ K Q', (match i.run Tryz.prog w with | .ok v w' => K (a.put op.dst v) w' | _ => False) → op.wp Tryz.prog a w K Q') (hr : i.run Tryz.prog w = .ok v w')
    (h : wpList Tryz.prog ops Q rest (a.put op.dst v) w') : wpList Tryz.prog ops Q (op :: rest) a w :=
  wpList_plain hgd fun K hK => he K _ (by rw [hr]; exact hK _ _ h)

/-- Two values are compared. -/
theorem wpEqlA (T r : Nat) (hG : Tryz.prog.eqGuardType Tryz.prog.depth T = false) (x y : Operand) (hgd : op.guard = none) (ho : op.op = .binOp .eql T x y r) (vs us : List Value) (hx : a.eval x = aggV vs) (hy : a.eval y = aggV us) (c : Bool)
    (he : (Op.equal T (aggV vs) (aggV us)).run Tryz.prog w = .ok c w)
    (h : wpList Tryz.prog ops Q rest (a.put op.dst (.bool c)) w) : wpList Tryz.prog ops Q (op :: rest) a w :=
  wpList_plain hgd fun K hK => by
    unfold Oper.wp execOp
    simp only [aggV] at he hx hy
    have hg : (eqGuard .eql T x y (.agg vs.toArray) (.agg us.toArray)).run Tryz.prog w = .ok () w := by simp [eqGuard, Sem.run_bind, hG]
    have hb : (binOp BinOp.eql T (.agg vs.toArray) (.agg us.toArray)).run Tryz.prog w = .ok (.bool c) w := by simp only [binOp, Sem.run_bind, he, Result.andThen_ok, Sem.run_pure]
    simp only [ho, hx, hy, Sem.run_bind, hg, hb, Result.andThen_ok]
    exact hK _ _ h
theorem wpNeqA (T r : Nat) (hG : Tryz.prog.eqGuardType Tryz.prog.depth T = false) (x y : Operand) (hgd : op.guard = none) (ho : op.op = .binOp .neq T x y r) (vs us : List Value) (hx : a.eval x = aggV vs) (hy : a.eval y = aggV us) (c : Bool)
    (he : (Op.equal T (aggV vs) (aggV us)).run Tryz.prog w = .ok c w)
    (h : wpList Tryz.prog ops Q rest (a.put op.dst (.bool (!c))) w) : wpList Tryz.prog ops Q (op :: rest) a w :=
  wpList_plain hgd fun K hK => by
    unfold Oper.wp execOp
    simp only [aggV] at he hx hy
    have hg : (eqGuard .neq T x y (.agg vs.toArray) (.agg us.toArray)).run Tryz.prog w = .ok () w := by simp [eqGuard, Sem.run_bind, hG]
    have hb : (binOp BinOp.neq T (.agg vs.toArray) (.agg us.toArray)).run Tryz.prog w = .ok (.bool (!c)) w := by simp only [binOp, Sem.run_bind, he, Result.andThen_ok, Sem.run_pure]
    simp only [ho, hx, hy, Sem.run_bind, hg, hb, Result.andThen_ok]
    exact hK _ _ h
end


theorem items_nil (W : World) (d T n : Nat) (xs ys : Array Value) : (Op.eqItems d T n xs ys []).run Tryz.prog W = .ok true W := by simp [Op.eqItems]

theorem fields_nil (W : World) (d : Nat) (xs ys : Array Value) : (Op.eqFields d xs ys []).run Tryz.prog W = .ok true W := by simp [Op.eqFields]

theorem fields_step (W : World) (d T o : Nat) (xs ys : Array Value) (f : Field) (fs : List Field) (a b : Value) (c e : Bool) (hn : f.name ≠ "_") (hT : f.type = T) (ho : f.offset = o) (pa : (part T xs o).run Tryz.prog W = .ok a W) (pb : (part T ys o).run Tryz.prog W = .ok b W) (he : (Op.equalIn d T a b).run Tryz.prog W = .ok c W) (hf : (Op.eqFields d xs ys fs).run Tryz.prog W = .ok e W) :
    (Op.eqFields d xs ys (f :: fs)).run Tryz.prog W = .ok (c && e) W := by
  subst hT ho
  simp only [Op.eqFields, ne_eq, hn, not_false_eq_true, if_true, Sem.run_bind, pa, pb, he, Result.andThen_ok]
  cases c <;> simp [hf]

theorem eq2 (W : World) (d : Nat) (x y : Int) : (Op.equalIn (d + 1) 2 (.int .i64 x) (.int .i64 y)).run Tryz.prog W = .ok (decide (x = y)) W := by
  simp [Op.equalIn, Sem.run_bind, run_underlying Tryz.underlying2]
  rw [Bool.eq_iff_iff]; simp

theorem eq3 (W : World) (d : Nat) (x y : Int) : (Op.equalIn (d + 1) 3 (.int .i64 x) (.int .i64 y)).run Tryz.prog W = .ok (decide (x = y)) W := by
  simp [Op.equalIn, Sem.run_bind, run_underlying Tryz.underlying3]
  rw [Bool.eq_iff_iff]; simp

theorem part2 (W : World) (vs : Array Value) (o : Nat) (v : Value) (h : vs[o]? = some v) : (part 2 vs o).run Tryz.prog W = .ok v W := by simp [part, isAgg, run_underlying Tryz.underlying2, h]

theorem part3 (W : World) (vs : Array Value) (o : Nat) (v : Value) (h : vs[o]? = some v) : (part 3 vs o).run Tryz.prog W = .ok v W := by simp [part, isAgg, run_underlying Tryz.underlying3, h]

theorem loadV {w : World} {b T n : Nat} {vs : List Value} (hT : Row T n) (hl : vs.length = n) (h : Blk w b T vs) : (loadVar T ⟨b, 0, none⟩).run Tryz.prog w = .ok (aggV vs) w := by
  obtain ⟨d, h1, h2, h3⟩ := hT
  exact run_loadVar_mid (P := Tryz.prog) w b 0 T vs d h.range h1 h2 (by rw [hl]; exact h3)

theorem keptBelow {X : List Nat} {a w w' : World} {B : Nat} (h : Kept X a w) (hb : Below B w w') (hB : a.heap.size ≤ B) : Kept X a w' :=
  ⟨hb.os.trans h.os, hb.tape.trans h.tape, hb.output.trans h.output, Nat.le_trans h.size hb.size, fun i hi hx => (hb.block i (by omega)).trans (h.block i hi hx)⟩

theorem ret_bool {a b : Bool} (h : a = true ↔ b = true) : Ending.returned (Value.bool a) = .returned (.bool b) := by rw [Bool.eq_iff_iff.2 h]

theorem fits_cell {w : World} {b T : Nat} {vs : List Value} (h : Blk w b T vs) (i : Nat) (v : Value) (hi : vs[i]? = some v) : w.cell? ⟨b, i, none⟩ = some v := by rw [h.cell]; exact hi

theorem wpAllocV {ops : Array Oper} {rest : List Oper} {op : Oper} {a : Act} {w : World} {Q : Exit → Act → World → Prop} {T : Nat} (vs : List Value) (hr : ∀ w : World, (Instr.alloc T true (.tuple #[])).run Tryz.prog w = .ok (P0 w.heap.size) (w.alloc (.cells vs.toArray T))) (d : Nat) (_ : op.dst = some d) (hgd : op.guard = none) (ho : op.op = .alloc T)
    (h : ∀ W, W = w.alloc (.cells vs.toArray T) → wpList Tryz.prog ops Q rest (a.put op.dst (P0 w.heap.size)) W) : wpList Tryz.prog ops Q (op :: rest) a w :=
  wpAllocA vs hr hgd ho (h _ rfl)

theorem wpNew {ops : Array Oper} {rest : List Oper} {o1 o2 : Oper} {a : Act} {w : World} {Q : Exit → Act → World → Prop} {T n : Nat} (hT : Row T n) (zv : List Value) (hz : zv.length = n) (hr : ∀ w : World, (Instr.alloc T true (.tuple #[])).run Tryz.prog w = .ok (P0 w.heap.size) (w.alloc (.cells zv.toArray T)))
    (d : Nat) (hd : o1.dst = some d) (hg1 : o1.guard = none) (ho1 : o1.op = .alloc T) (y : Operand) (hg2 : o2.guard = none) (ho2 : o2.op = .store T (.tmp d) y) (hd2 : o2.dst = none)
    (vs : List Value) (hl : vs.length = n) (h1 : ∀ v ∈ vs, v.oneCell' = true) (hx : (a.put (some d) (P0 w.heap.size)).eval (.tmp d) = P0 w.heap.size) (hy : (a.put (some d) (P0 w.heap.size)).eval y = aggV vs)
    (h : ∀ W b, b = w.heap.size → Blk W b T vs → Kept [] w W → wpList Tryz.prog ops Q rest (a.put (some d) (P0 b)) W) : wpList Tryz.prog ops Q (o1 :: o2 :: rest) a w := by
  refine wpAllocA zv hr hg1 ho1 ?_
  rw [hd]
  have hb : Blk (w.alloc (.cells zv.toArray T)) w.heap.size T zv := Blk.new w T zv
  refine wpStoreA hT hg2 (.tmp d) y ho2 w.heap.size 0 vs hx hy hl h1 (hb.there (by omega)) ?_
  rw [hd2]
  exact h _ _ rfl (hb.put (by omega)) (((Kept.refl _ _).alloc _).setCells _ _ (by omega))

section
variable {ops : Array Oper} {rest : List Oper} {op : Oper} {a : Act} {w : World} {Q : Exit → Act → World → Prop}
theorem wpBoxV {T : Nat} (hgd : op.guard = none) (x : Operand) (ho : op.op = .box T x) (vs : List Value) (hx : a.eval x = aggV vs)
    (h : ∀ W b, b = w.heap.size → Blk W b T vs → Kept [] w W → wpList Tryz.prog ops Q rest (a.put op.dst (P0 b)) W) : wpList Tryz.prog ops Q (op :: rest) a w :=
  wpBoxA hgd x ho vs hx (h _ _ rfl (Blk.new w T vs) ((Kept.refl _ _).alloc _))
theorem wpAllocW {T : Nat} (vs : List Value) (hr : ∀ w : World, (Instr.alloc T true (.tuple #[])).run Tryz.prog w = .ok (P0 w.heap.size) (w.alloc (.cells vs.toArray T))) (d : Nat) (_ : op.dst = some d) (hgd : op.guard = none) (ho : op.op = .alloc T)
    (h : ∀ W b, b = w.heap.size → Blk W b T vs → Kept [] w W → wpList Tryz.prog ops Q rest (a.put op.dst (P0 b)) W) : wpList Tryz.prog ops Q (op :: rest) a w :=
  wpAllocA vs hr hgd ho (h _ _ rfl (Blk.new w T vs) ((Kept.refl _ _).alloc _))
end

section
variable {o : Oper} {a : Act} {w : World} {K : Act → World → Prop} {Q : Exit → Act → World → Prop}
theorem wp_loadA {T n : Nat} (hT : Row T n) (x : Operand) (ho : o.op = .load T x) (b off : Nat) (hx : a.eval x = .pointer (some ⟨b, off, none⟩)) (vs : List Value) (hl : vs.length = n) (hA : w.rangeAt b off vs)
    (h : K (a.put o.dst (aggV vs)) w) : o.wp Tryz.prog a w K Q := by
  obtain ⟨d, h1, h2, h3⟩ := hT
  exact wp_load_mid (P := Tryz.prog) T x ho b off hx vs d hA h1 h2 (by rw [hl]; exact h3) h
theorem wp_storeA {T n : Nat} (hT : Row T n) (x y : Operand) (ho : o.op = .store T x y) (b off : Nat) (vs : List Value) (hx : a.eval x = .pointer (some ⟨b, off, none⟩)) (hy : a.eval y = aggV vs) (hl : vs.length = n) (h1 : ∀ v ∈ vs, v.oneCell' = true) (hA : w.there b off n)
    (h : K (a.put o.dst undef) (w.setCells b off vs)) : o.wp Tryz.prog a w K Q := by
  obtain ⟨d, g1, g2, g3⟩ := hT
  exact wp_store_mid (P := Tryz.prog) T x y ho b off vs.toArray hx hy (by simpa [hl] using hA) (by simpa [hl] using g3) (all_oneCell_toArray h1) h
theorem wp_storeN {T n : Nat} (hT : Row T n) (x y : Operand) (ho : o.op = .store T x y) (hd : o.dst = none) (b off : Nat) (vs : List Value) (hx : a.eval x = .pointer (some ⟨b, off, none⟩)) (hy : a.eval y = aggV vs) (hl : vs.length = n) (h1 : ∀ v ∈ vs, v.oneCell' = true) (hA : w.there b off n)
    (h : K a (w.setCells b off vs)) : o.wp Tryz.prog a w K Q := by
  refine wp_storeA hT x y ho b off vs hx hy hl h1 hA ?_
  rw [hd]
  exact h
theorem wp_allocA {T : Nat} (vs : List Value) (hr : ∀ w : World, (Instr.alloc T true (.tuple #[])).run Tryz.prog w = .ok (P0 w.heap.size) (w.alloc (.cells vs.toArray T))) (ho : o.op = .alloc T)
    (h : K (a.put o.dst (P0 w.heap.size)) (w.alloc (.cells vs.toArray T))) : o.wp Tryz.prog a w K Q := by
  unfold Oper.wp execOp
  simp only [ho, Sem.run_bind, hr, Result.andThen_ok]
  exact h
/-- One operation: a function is called. -/
theorem wp_callF {P : Program} (f : FuncId) (args : Array Operand) (ts : Array TypeId) (ho : o.op = .call { callee := .value (.func f), args := args, argTypes := ts })
    (vs : Array Value) (hv : args.map a.eval = vs) (hcf : (callFunc f vs).run P w = .ok (.enter f vs) w) (h : Calls P f vs w fun e w' => ∃ v, e = .returned v ∧ K (a.put o.dst v) w') : o.wp P a w K Q := by
  subst hv
  unfold Oper.wp execOp
  simp only [ho]
  simp [resolve, invoke, go_sem, hcf]
  refine h.mono ?_
  rintro e w' ⟨v, rfl, hk⟩
  exact hk
end
theorem wpBuildP {ops : Array Oper} {rest : List Oper} {op : Oper} {a : Act} {w : World} {Q : Exit → Act → World → Prop} {T : Nat} (hgd : op.guard = none) (parts : Array (Nat × Operand)) (ho : op.op = .build T parts) (ps : Array (Nat × Value)) (hp : (parts.map fun (i, x) => (i, a.eval x)) = ps) (vs : List Value)
    (hr : (Instr.build T ps).run Tryz.prog w = .ok (aggV vs) w) (h : wpList Tryz.prog ops Q rest (a.put op.dst (aggV vs)) w) : wpList Tryz.prog ops Q (op :: rest) a w :=
  wpList_plain hgd fun K hK => by
    subst hp
    unfold Oper.wp execOp
    simp only [ho, Sem.run_bind, hr, Result.andThen_ok]
    exact hK _ _ h
theorem wpOp_of {P : Program} {ops : Array Oper} {o : Oper} {a : Act} {w : World} {K : Act → World → Prop} {Q : Exit → Act → World → Prop} {i : Nat} (ho : ops[i]? = some o) (hg : o.guard = none) (h : o.wp P a w K Q) : wpOp P ops Q i K a w := by
  unfold wpOp
  rw [ho]
  have hw : Region.wanted o (yielded ops a.tmps) = true := by simp [Region.wanted, hg]
  simp only [hw, if_true]
  exact .inl h


theorem mixed : Tryz.prog.follows .mixedOrders = true := by kernel_rfl

/-- What is known of a value: it is this one, or a new block that has these cells. -/
inductive Fact
  | is (v : Value)
  | new (T : Nat) (vs : List Value) (B : Nat)
def Fact.at (v : Value) (w : World) : Fact → Prop
  | .is u => v = u
  | .new T vs B => ∃ q, v = P0 q ∧ B ≤ q ∧ Blk w q T vs
def tab (fs : List Fact) (j : Nat) (v : Value) (w : World) : Prop := match fs[j]? with
  | some f => f.at v w
  | none => True
theorem tab_kept (fs : List Fact) : ∀ j v w w', tab fs j v w → Kept [] w w' → tab fs j v w' := by
  intro j v w w' h hk
  unfold tab at *
  cases hf : fs[j]? with
  | none => trivial
  | some f =>
    rw [hf] at h
    cases f with
    | is u => exact h
    | new T vs B =>
      obtain ⟨q, h1, h2, h3⟩ := h
      exact ⟨q, h1, h2, h3.kept hk (by simp)⟩

/-- Values of these operations are apart. -/
def apartE (L : List Nat) (i j : Nat) (u v : Value) : Prop := i ∈ L → j ∈ L → u ≠ v
theorem apart_no {L : List Nat} {j : Nat} (h : j ∉ L) (i : Nat) (u v : Value) : apartE L i j u v := fun _ hj => absurd hj h
theorem apart_new {L : List Nat} {fs : List Fact} {w : World} (hL : ∀ i ∈ L, ∃ T vs B, fs[i]? = some (.new T vs B)) (i j : Nat) (u : Value) (h : tab fs i u w) : apartE L i j u (P0 w.heap.size) := by
  intro hi _ e
  obtain ⟨T, vs, B, hf⟩ := hL i hi
  unfold tab at h
  rw [hf] at h
  obtain ⟨q, rfl, _, hb⟩ := h
  have := hb.lt
  cases e
  omega

section
variable {ops : Array Oper} {rest : List Oper} {op : Oper} {a : Act} {w : World} {Q : Exit → Act → World → Prop}
theorem wpBuildG {T : Nat} (parts : Array (Nat × Operand)) (ho : op.op = .build T parts) (hw : Region.wanted op (yielded ops a.tmps) = true) (ps : Array (Nat × Value)) (hp : (parts.map fun (i, x) => (i, a.eval x)) = ps) (vs : List Value)
    (hr : (Instr.build T ps).run Tryz.prog w = .ok (aggV vs) w) (h : wpList Tryz.prog ops Q rest (a.put op.dst (aggV vs)) w) : wpList Tryz.prog ops Q (op :: rest) a w :=
  BigFrame.wpList_want hw fun K hK => by
    subst hp
    unfold Oper.wp execOp
    simp only [ho, Sem.run_bind, hr, Result.andThen_ok]
    exact hK _ _ h
theorem wpNeqG (T r : Nat) (hG : Tryz.prog.eqGuardType Tryz.prog.depth T = false) (x y : Operand) (ho : op.op = .binOp .neq T x y r) (hw : Region.wanted op (yielded ops a.tmps) = true) (vs us : List Value) (hx : a.eval x = aggV vs) (hy : a.eval y = aggV us) (c : Bool)
    (he : (Op.equal T (aggV vs) (aggV us)).run Tryz.prog w = .ok c w)
    (h : wpList Tryz.prog ops Q rest (a.put op.dst (.bool (!c))) w) : wpList Tryz.prog ops Q (op :: rest) a w :=
  BigFrame.wpList_want hw fun K hK => by
    unfold Oper.wp execOp
    simp only [aggV] at he hx hy
    have hg : (eqGuard .neq T x y (.agg vs.toArray) (.agg us.toArray)).run Tryz.prog w = .ok () w := by simp [eqGuard, Sem.run_bind, hG]
    have hb : (binOp BinOp.neq T (.agg vs.toArray) (.agg us.toArray)).run Tryz.prog w = .ok (.bool (!c)) w := by simp only [binOp, Sem.run_bind, he, Result.andThen_ok, Sem.run_pure]
    simp only [ho, hx, hy, Sem.run_bind, hg, hb, Result.andThen_ok]
    exact hK _ _ h
theorem wpEqlG (T r : Nat) (hG : Tryz.prog.eqGuardType Tryz.prog.depth T = false) (x y : Operand) (ho : op.op = .binOp .eql T x y r) (hw : Region.wanted op (yielded ops a.tmps) = true) (vs us : List Value) (hx : a.eval x = aggV vs) (hy : a.eval y = aggV us) (c : Bool)
    (he : (Op.equal T (aggV vs) (aggV us)).run Tryz.prog w = .ok c w)
    (h : wpList Tryz.prog ops Q rest (a.put op.dst (.bool c)) w) : wpList Tryz.prog ops Q (op :: rest) a w :=
  BigFrame.wpList_want hw fun K hK => by
    unfold Oper.wp execOp
    simp only [aggV] at he hx hy
    have hg : (eqGuard .eql T x y (.agg vs.toArray) (.agg us.toArray)).run Tryz.prog w = .ok () w := by simp [eqGuard, Sem.run_bind, hG]
    have hb : (binOp BinOp.eql T (.agg vs.toArray) (.agg us.toArray)).run Tryz.prog w = .ok (.bool c) w := by simp only [binOp, Sem.run_bind, he, Result.andThen_ok, Sem.run_pure]
    simp only [ho, hx, hy, Sem.run_bind, hg, hb, Result.andThen_ok]
    exact hK _ _ h
end

theorem wp_buildP {o : Oper} {a : Act} {w : World} {K : Act → World → Prop} {Q : Exit → Act → World → Prop} {T : Nat} (parts : Array (Nat × Operand)) (ho : o.op = .build T parts) (ps : Array (Nat × Value)) (hp : (parts.map fun (i, x) => (i, a.eval x)) = ps) (vs : List Value)
    (hr : (Instr.build T ps).run Tryz.prog w = .ok (aggV vs) w) (h : K (a.put o.dst (aggV vs)) w) : o.wp Tryz.prog a w K Q := by
  subst hp
  unfold Oper.wp execOp
  simp only [ho, Sem.run_bind, hr, Result.andThen_ok]
  exact h

theorem wp_assign {o : Oper} {a : Act} {w : World} {K : Act → World → Prop} {Q : Exit → Act → World → Prop} (x : Operand) (ho : o.op = .assign x) (h : K (a.put o.dst (a.eval x)) w) : o.wp Tryz.prog a w K Q := by
  unfold Oper.wp execOp
  simp only [ho]
  exact h

theorem row23 : Row 23 5 := ⟨_, Tryz.underlying23, rfl, by kernel_rfl⟩
theorem row58 : Row 190 4 := ⟨_, Tryz.underlying190, rfl, by kernel_rfl⟩
/-- A number that an int64 can be. -/
def I64 (n : Int) : Prop := -9223372036854775808 ≤ n ∧ n ≤ 9223372036854775807
/-- A job. -/
structure Job where
  n : Int
  p : Int
  f : Int
  l : Int
  t : Int
def jobC (j : Job) : List Value := [.int .i64 j.n, .int .i64 j.p, .int .i64 j.f, .int .i64 j.l, .int .i64 j.t]
/-- Four numbers as cells: a place, the areas' ends, an ask. -/
def fourC (a b c d : Int) : List Value := [.int .i64 a, .int .i64 b, .int .i64 c, .int .i64 d]
theorem jobC_one (j : Job) : ∀ v ∈ jobC j, v.oneCell' = true := by
  intro v hv
  simp only [jobC, List.mem_cons, List.mem_nil_iff, or_false] at hv
  rcases hv with rfl | rfl | rfl | rfl | rfl <;> rfl
theorem fourC_one (a b c d : Int) : ∀ v ∈ fourC a b c d, v.oneCell' = true := by
  intro v hv
  simp only [fourC, List.mem_cons, List.mem_nil_iff, or_false] at hv
  rcases hv with rfl | rfl | rfl | rfl <;> rfl

theorem zero23 (w : World) : (Instr.alloc 23 true (.tuple #[])).run Tryz.prog w = .ok (P0 w.heap.size) (w.alloc (.cells (jobC ⟨0, 0, 0, 0, 0⟩).toArray 23)) := by kernel_rfl
theorem zero58 (w : World) : (Instr.alloc 190 true (.tuple #[])).run Tryz.prog w = .ok (P0 w.heap.size) (w.alloc (.cells (fourC 0 0 0 0).toArray 190)) := by kernel_rfl
/-- Two places are the same. -/
def fourEq (a b c d a' b' c' d' : Int) : Bool := decide (a = a') && (decide (b = b') && (decide (c = c') && decide (d = d')))
theorem Job.cells {W : World} {b : Nat} {j : Job} (h : Blk W b 23 (jobC j)) : W.cell? ⟨b, 0, none⟩ = some (.int .i64 j.n) ∧ W.cell? ⟨b, 1, none⟩ = some (.int .i64 j.p) ∧ W.cell? ⟨b, 2, none⟩ = some (.int .i64 j.f) ∧ W.cell? ⟨b, 3, none⟩ = some (.int .i64 j.l) ∧ W.cell? ⟨b, 4, none⟩ = some (.int .i64 j.t) :=
  ⟨fits_cell h 0 _ rfl, fits_cell h 1 _ rfl, fits_cell h 2 _ rfl, fits_cell h 3 _ rfl, fits_cell h 4 _ rfl⟩
theorem four_cells {W : World} {b T : Nat} {x y z u : Int} (h : Blk W b T (fourC x y z u)) : W.cell? ⟨b, 0, none⟩ = some (.int .i64 x) ∧ W.cell? ⟨b, 1, none⟩ = some (.int .i64 y) ∧ W.cell? ⟨b, 2, none⟩ = some (.int .i64 z) ∧ W.cell? ⟨b, 3, none⟩ = some (.int .i64 u) :=
  ⟨fits_cell h 0 _ rfl, fits_cell h 1 _ rfl, fits_cell h 2 _ rfl, fits_cell h 3 _ rfl⟩

end Go.Proofs.YtcfflbafclmheaaGreatDoor.Ar
