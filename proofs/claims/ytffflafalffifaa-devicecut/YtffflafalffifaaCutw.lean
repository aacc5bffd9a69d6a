/-
  What a write that is cut leaves, as plain data. The walk of DeviceCut's law.
-/
import Derived.Test.YtffflafalffifaaDoc
import Derived.Test.YtffflafalffifaaStps

namespace Go.Proofs.Ytffflafalffifaa.K
open Go.RowKit

theorem puts_cut : ∀ (L : List (List Int)) (D : Dev) (k : Nat), D.set = true → 0 ≤ D.left → D.lost = false → k + L.length ≤ D.S.length →
    (D.puts k L).lost = decide (D.left < L.length) ∧ (D.puts k L).S.length = D.S.length ∧ ∀ i : Nat, (D.puts k L).S[i]? = if k ≤ i ∧ i < k + L.length ∧ (i : Int) - k < D.left then L[i - k]? else D.S[i]? := by
  intro L
  induction L with
  | nil =>
    intro D k hs hl ho hk
    refine ⟨?_, rfl, fun i => ?_⟩
    · show D.lost = _
      rw [ho]
      symm
      rw [decide_eq_false_iff_not]
      simp
      omega
    · show D.S[i]? = _
      rw [if_neg (by simp; omega)]
  | cons s L ih =>
    intro D k hs hl ho hk
    simp only [List.length_cons] at hk
    unfold Dev.puts
    by_cases h0 : D.left = 0
    · have e : D.step (D.S.set k s) D.E = ({ D with lost := true }, false) := by unfold Dev.step; rw [if_pos ⟨hs, h0⟩]
      rw [e]
      refine ⟨?_, rfl, fun i => ?_⟩
      · show true = _
        symm
        rw [decide_eq_true_iff, h0]
        simp only [List.length_cons]
        omega
      · show D.S[i]? = _
        rw [if_neg (by intro h; omega)]
    · obtain ⟨D1, hD1, e1, e2, e3, e4⟩ : ∃ D1 : Dev, D.step (D.S.set k s) D.E = (D1, true) ∧ D1.set = true ∧ D1.left = D.left - 1 ∧ D1.lost = false ∧ D1.S = D.S.set k s := by
        unfold Dev.step
        rw [if_neg (by rintro ⟨_, h⟩; exact h0 h)]
        exact ⟨_, rfl, hs, by simp [hs], ho, rfl⟩
      rw [hD1]
      simp only [if_true]
      obtain ⟨g1, g2, g3⟩ := ih D1 (k + 1) e1 (by omega) e3 (by rw [e4, List.length_set]; omega)
      refine ⟨?_, by rw [g2, e4, List.length_set], fun i => ?_⟩
      · rw [g1, e2]
        congr 1
        simp only [List.length_cons, eq_iff_iff]
        omega
      · rw [g3, e2, e4]
        simp only [List.length_cons]
        by_cases hi : i = k
        · subst hi
          rw [if_neg (by omega), if_pos (by omega), List.getElem?_set_self (by omega), Nat.sub_self]
          rfl
        · by_cases hc : k + 1 ≤ i ∧ i < k + 1 + L.length ∧ (i : Int) - (k + 1 : Nat) < D.left - 1
          · rw [if_pos hc, if_pos (by omega), show i - k = (i - (k + 1)) + 1 by omega, List.getElem?_cons_succ]
          · rw [if_neg hc, if_neg (by omega), List.getElem?_set_ne (fun e => hi e.symm)]
/-- What a fenced one asks changes nothing. -/
theorem fenced_write {D : Dev} (hN : D.N = 2) (hS : D.S.length = 40) (h : 0 < D.ep 0) (L : List (List Int)) (hL : L.length ≤ 40) : D.write 0 (D.ep 0 - 1) 0 L = (8, D) := by
  have h1 : D.ref 0 (D.ep 0 - 1) (hasS D.S.length 0 L.length) = 8 := by
    unfold Dev.ref
    rw [if_pos ⟨by rw [hS]; simp [hasS]; omega, by rw [hN]; simp [hasN], by omega, by omega⟩, if_pos (by omega)]
  unfold Dev.write
  rw [h1, if_neg (by decide)]
theorem fenced_fence {D : Dev} (hN : D.N = 2) (h : 0 < D.ep 0) : D.fence 0 (D.ep 0 - 1) 1 9 = (8, D) := by
  have h1 : D.ref 0 (D.ep 0 - 1) (hasN D.N 1 && decide ((0 : Int) ≤ 9 ∧ (9 : Int) ≤ 2147483646)) = 8 := by
    unfold Dev.ref
    rw [if_pos ⟨by rw [hN]; simp [hasN], by rw [hN]; simp [hasN], by omega, by omega⟩, if_pos (by omega)]
  unfold Dev.fence
  rw [h1, if_neg (by decide)]
/-- A write behind a cut, as the law asks it. -/
theorem cut_write {D : Dev} (hN : D.N = 2) (hS : D.S.length = 40) (he : 0 ≤ D.ep 0) (hs : D.set = false) (n : Int) (hn : 0 ≤ n) (L : List (List Int)) (hL : L.length ≤ 40) :
    ∃ D1 D2 : Dev, D.cut n = (0, D1) ∧ D1.write 0 (D.ep 0) 0 L = (0, D2) ∧ D2.lost = decide (n < L.length) ∧ D2.S.length = 40 ∧ ∀ i : Nat, D2.S[i]? = if i < L.length ∧ (i : Int) < n then L[i]? else D.S[i]? := by
  refine ⟨{ D with set := true, left := n, lost := false }, ({ D with set := true, left := n, lost := false } : Dev).puts 0 L, ?_, ?_, ?_⟩
  · unfold Dev.cut
    rw [if_neg (by omega), hs]
    rfl
  · have h1 : ({ D with set := true, left := n, lost := false } : Dev).ref 0 (D.ep 0) (hasS D.S.length 0 L.length) = 0 := by
      unfold Dev.ref
      rw [if_pos ⟨by rw [hS]; simp [hasS]; omega, by show hasN D.N 0 = true; rw [hN]; simp [hasN], he, Int.le_refl _⟩]
      exact if_neg (Int.lt_irrefl _)
    unfold Dev.write
    rw [show (({ D with set := true, left := n, lost := false } : Dev)).S = D.S from rfl, h1, if_pos rfl]
    rfl
  · obtain ⟨g1, g2, g3⟩ := puts_cut L { D with set := true, left := n, lost := false } 0 rfl hn rfl (by show 0 + L.length ≤ D.S.length; omega)
    refine ⟨g1, by rw [g2]; exact hS, fun i => ?_⟩
    rw [g3]
    by_cases hc : i < L.length ∧ (i : Int) < n
    · rw [if_pos hc, if_pos (by simp; omega), Nat.sub_zero]
    · rw [if_neg hc, if_neg (by simp; omega)]

end Go.Proofs.Ytffflafalffifaa.K

namespace Go.Proofs.Ytffflafalffifaa.K
open Go.RowKit


theorem cut_reads {Dw D1 : Dev} {L : List (List Int)} {n : Int} {ln : Nat} (hl : L.length = ln) (h1 : ∀ s ∈ Dw.S, Sec s) (h2 : ∀ s ∈ D1.S, Sec s) (hs1 : Dw.S.length = 40) (hs2 : D1.S.length = 40) (hrd : ∀ i : Nat, Dw.S[i]? = if i < L.length ∧ (i : Int) < n then L[i]? else D1.S[i]?) (k : Nat) (hk : k < 40) :
    ∃ s t, Dw.uncut.read k = (s, 0) ∧ D1.read k = (t, 0) ∧ Sec s ∧ Sec t ∧ (k < ln ∧ (k : Int) < n → L[k]? = some s) ∧ (¬(k < ln ∧ (k : Int) < n) → t = s) := by
  have g1 : Dw.S[k]? = some (Dw.S[k]'(by omega)) := List.getElem?_eq_getElem (by omega)
  have g2 : D1.S[k]? = some (D1.S[k]'(by omega)) := List.getElem?_eq_getElem (by omega)
  refine ⟨Dw.S[k]'(by omega), D1.S[k]'(by omega), ?_, ?_, h1 _ (List.getElem_mem _), h2 _ (List.getElem_mem _), fun hc => ?_, fun hc => ?_⟩
  · unfold Dev.read
    rw [if_pos (by show hasS Dw.S.length k 1 = true; rw [hs1]; simp [hasS]; omega)]
    show (Dw.S.getD (k : Int).toNat nought, (0 : Int)) = _
    simp [List.getD, g1]
  · unfold Dev.read
    rw [if_pos (by rw [hs2]; simp [hasS]; omega)]
    simp [List.getD, g2]
  · have := hrd k
    rw [hl, if_pos hc] at this
    rw [← this]; exact g1
  · have := hrd k
    rw [hl, if_neg hc, g1, g2] at this
    exact (Option.some.inj this).symm
section
variable {ops : Array Oper} {rest : List Oper} {op : Oper} {a : Act} {w : World} {Q : Exit → Act → World → Prop}
theorem wpStoreW {T n : Nat} (hT : Row T n) (hgd : op.guard = none) (x y : Operand) (ho : op.op = .store T x y) (hd : op.dst = none) (b : Nat) (zv vs : List Value) (hx : a.eval x = .pointer (some ⟨b, 0, none⟩)) (hy : a.eval y = aggV vs) (hl : vs.length = n) (h1 : ∀ v ∈ vs, v.oneCell' = true) (hb : Blk w b T zv) (hz : zv.length = n)
    (h : ∀ W, Blk W b T vs → Kept [b] w W → wpList Try.prog ops Q rest a W) : wpList Try.prog ops Q (op :: rest) a w :=
  wpStoreA hT hgd x y ho b 0 vs hx hy hl h1 (hb.there (by omega)) (by rw [hd]; exact h _ (hb.put (by omega)) ((Kept.refl _ _).setCells _ _ (by simp)))
end

set_option maxHeartbeats 2000000 in
set_option maxRecDepth 100000 in
theorem write22E (b g : Nat) (D : Dev) (x ep f : Int) (ao : Option Addr) (n c : Nat) (L : List (List Int)) (w : World) (h : Dv w b g D) (hf : -9223372036854775808 ≤ f ∧ f ≤ 9223372036854775807) (hn : n ≤ 9223372036854775807) (hL : Secs w ao n c L) (hA : L ≠ [] → Away ao [b, g]) :
    Calls Try.prog 22 #[.pointer (some ⟨b, 0, none⟩), .int .i64 x, .int .i64 ep, .int .i64 f, .slice ao n c] w fun e w' => e = .returned (.int .i64 (D.write x ep f L).1) ∧ Dv w' b g (D.write x ep f L).2 ∧ Kept [b, g] w w' := by
  have hlt := h.lt
  have hk2 : Kept [] w ((w.alloc (.cells #[.pointer (some ⟨b, 0, none⟩)] 24)).alloc (.cells #[.int .i64 f] 3)) := ((Kept.refl _ _).alloc _).alloc _
  have hD := h.kept hk2 (by simp) (by simp)
  have hL2 := hL.kept hk2 (by intro _ _ _; simp)
  have hc1 : ((w.alloc (.cells #[.pointer (some ⟨b, 0, none⟩)] 24)).alloc (.cells #[.int .i64 f] 3)).cell? ⟨w.heap.size, 0, none⟩ = some (.pointer (some ⟨b, 0, none⟩)) := box_at (heap_alloc_old (heap_new rfl))
  have hc2 : ((w.alloc (.cells #[.pointer (some ⟨b, 0, none⟩)] 24)).alloc (.cells #[.int .i64 f] 3)).cell? ⟨w.heap.size + 1, 0, none⟩ = some (.int .i64 f) := box_at (heap_new (by simp))
  have hsz : w.heap.size + 2 ≤ ((w.alloc (.cells #[.pointer (some ⟨b, 0, none⟩)] 24)).alloc (.cells #[.int .i64 f] 3)).heap.size := by simp
  have hlen := hL.len
  by_cases hz : D.ref x ep (hasS D.S.length f n) = 0
  · have hU : D.write x ep f L = (0, D.puts f.toNat L) := by simp [Dev.write, hlen, hz]
    rw [hU]
    have hS := ref_may hz
    have hff : 0 ≤ f ∧ (n : Int) ≤ D.S.length - f := by simpa [hasS] using hS
    obtain ⟨F, rfl⟩ := Int.eq_ofNat_of_zero_le hff.1
    simp only [Int.toNat_natCast]
    clear hU
    rw [hS] at hz
    have HZ := hide hz
    have HS := hide hS
    clear hz hS
    go_enter Try.func22, Try.ntmps22
    go_wp2
    generalize (w.alloc (.cells #[.pointer (some ⟨b, 0, none⟩)] 24)).alloc (.cells #[.int .i64 F] 3) = W at *
    go_step3
    go_wp2
    go_quiet ((first | (go_at_call 53; exact Calls.quiet_of_same (has_is _ _ _ _ _ (hD.drewN _).sz hD.ok.s1 hf true (unhide HS))) | (go_at_call 52; go_must (exact Calls.quiet_of_same (ref_is _ _ _ _ _ _ _ (hD.drewN _) 0 (unhide HZ))))))
    go_wp2
    go_step3
    go_wp2
    have hkW : Hid (Kept [b, g] W (W.drewN nq)) := (Kept.refl _ _).drewN _
    have hDW : Hid (Dv (W.drewN nq) b g D) := hD.drewN _
    go_loopw [28] (fun i wr => ∃ (k : Nat) (Dk : Dev), k ≤ n ∧ i = .int .i64 k ∧ Dv wr b g Dk ∧ Dk.S.length = D.S.length ∧ Hid (Dk.puts (F + k) (L.drop k) = D.puts F L) ∧ Hid (Kept [b, g] W wr)) (fun i _ => n - (intOf i).toNat)
    case atStart => exact ⟨0, D, by omega, rfl, unhide hDW, rfl, rfl, hkW⟩
    case round =>
      obtain ⟨k, Dk, hkn, rfl, hDk, hSk, hPk, hKk⟩ := hrel
      have hb1 := (unhide hKk).cell hc1 (by simp; omega)
      have hb2 := (unhide hKk).cell hc2 (by simp; omega)
      by_cases hlt' : k < n
      · obtain ⟨s, hs⟩ : ∃ s, L[k]? = some s := ⟨_, List.getElem?_eq_getElem (by omega)⟩
        have hsec : Sec s := hL2.sec s (List.mem_of_getElem? hs)
        obtain ⟨hb, off, rfl, hr⟩ := hL2.lies (by intro e; simp [e] at hlen; omega)
        have hrk := hr k (by omega)
        have hgs : L[k]'(by omega) = s := by have := List.getElem?_eq_getElem (l := L) (i := k) (by omega); rw [this] at hs; simpa using hs
        rw [hgs] at hrk
        have hrr : wr.rangeAt hb (off + k * 64) (u8s s) := fun j v hj => (unhide hKk).cell (hrk j v hj) (hA (by intro e; simp [e] at hlen; omega) hb off rfl)
        have HR := hide hrr
        have hBX : Hid (Box ((wr.alloc (Obj.cells #[.int .i64 k] 3)).alloc (Obj.cells (u8s nought).toArray 38)) (wr.heap.size + 1) nought) := ⟨nought_sec, heap_new (by simp)⟩
        have hKX : Hid (Kept [] wr ((wr.alloc (Obj.cells #[.int .i64 k] 3)).alloc (Obj.cells (u8s nought).toArray 38))) := ((Kept.refl _ _).alloc _).alloc _
        have hCX : Hid (((wr.alloc (Obj.cells #[.int .i64 k] 3)).alloc (Obj.cells (u8s nought).toArray 38)).cell? ⟨wr.heap.size, 0, none⟩ = some (.int .i64 k)) := box_at (heap_alloc_old (heap_new rfl))
        have hwr := (unhide hKk).size
        have hKY : Hid (Kept [] wr (((wr.alloc (Obj.cells #[.int .i64 k] 3)).alloc (Obj.cells (u8s nought).toArray 38)).setCells (wr.heap.size + 1) 0 (u8s s))) := (unhide hKX).setCells _ _ (by omega)
        have hb3 : (((wr.alloc (Obj.cells #[.int .i64 k] 3)).alloc (Obj.cells (u8s nought).toArray 38)).setCells (wr.heap.size + 1) 0 (u8s s)).cell? ⟨w.heap.size, 0, none⟩ = some (.pointer (some ⟨b, 0, none⟩)) := (unhide hKY).cell hb1 (by simp)
        have hDo : Hid (Calls Try.prog 54 #[.pointer (some ⟨b, 0, none⟩), .func (.func 55) #[] #[.pointer (some ⟨wr.heap.size + 1, 0, none⟩), .pointer (some ⟨w.heap.size, 0, none⟩), .pointer (some ⟨w.heap.size + 1, 0, none⟩), .pointer (some ⟨wr.heap.size, 0, none⟩)]] (((wr.alloc (Obj.cells #[.int .i64 k] 3)).alloc (Obj.cells (u8s nought).toArray 38)).setCells (wr.heap.size + 1) 0 (u8s s)) fun e w' => e = .returned (.bool (Dk.step (Dk.S.set (F + k) s) Dk.E).2) ∧ Dv w' b g (Dk.step (Dk.S.set (F + k) s) Dk.E).1 ∧ Kept [b, g] wr w') := by
          have hlt2 := hDk.lt
          have hDY := hDk.kept (unhide hKY) (by simp) (by simp)
          refine (do54_55 b g Dk (Dk.S.set (F + k) s) Dk.E _ _ hDY ?_).mono ?_
          · intro D1 w1 hS1 hE1 hN1 h1 k1
            refine (write55 (wr.heap.size + 1) w.heap.size (w.heap.size + 1) wr.heap.size b g D1 F k (F + k) rfl s w1 h1 (by rw [hS1, hSk]; omega) (((unhide hBX).put hsec).kept k1 (by simp; omega)) (k1.cell hb3 (by simp; omega)) (k1.cell ((unhide hKY).cell hb2 (by simp)) (by simp; omega)) (k1.cell (cell_sets_ne (by omega) (unhide hCX)) (by simp; omega)) (by omega) (by omega) (by omega) (by omega)).mono ?_
            rintro e w2 ⟨rfl, h2, k2⟩
            refine ⟨rfl, ?_, k2.mono (by simp)⟩
            rw [← hS1, ← hE1]
            exact h2
          · rintro e w2 ⟨rfl, h2, k2⟩
            exact ⟨rfl, h2, ((unhide hKY).mono (by simp)).trans k2⟩
        clear hr hrk hrr
        have hdrop : L.drop k = s :: L.drop (k + 1) := by rw [List.drop_eq_getElem_cons (by omega), hgs]
        have hPs := unhide hPk
        rw [hdrop, Dev.puts] at hPs
        cases hst : (Dk.step (Dk.S.set (F + k) s) Dk.E).2 with
        | true =>
          rw [hst] at hDo
          rw [hst, if_pos rfl] at hPs
          have HPs := hide hPs
          have hln := step_len Dk (F + k) s
          clear hPs hPk hdrop hst hgs
          go_wp2_with (first | (refine wpLoadS' rfl (.tmp 31) rfl hb (off + k * 64) rfl s hsec (unhide HR) ?_) | (refine wpAllocS rfl rfl ?_) | (refine wpStoreS rfl (.tmp 13) (.tmp 32) rfl (wr.heap.size + 1) 0 s rfl rfl hsec (unhide hBX).at.2.2 ?_) | (go_at_call 54; go_must (refine (unhide hDo).mono ?_; rintro e w1 ⟨rfl, hd1, hk1⟩)))
          go_roundw
          case rel => exact ⟨k + 1, _, by omega, by go_num, hd1, by rw [hln]; exact hSk, by rw [← Nat.add_assoc]; exact HPs, (unhide hKk).trans hk1⟩
          case measure => simp [intOf]; omega
        | false =>
          rw [hst] at hDo
          rw [hst, if_neg (by simp)] at hPs
          have HPs := hide hPs
          clear hPs hPk hdrop hst hgs
          go_wp2_with (first | (refine wpLoadS' rfl (.tmp 31) rfl hb (off + k * 64) rfl s hsec (unhide HR) ?_) | (refine wpAllocS rfl rfl ?_) | (refine wpStoreS rfl (.tmp 13) (.tmp 32) rfl (wr.heap.size + 1) 0 s rfl rfl hsec (unhide hBX).at.2.2 ?_) | (go_at_call 54; go_must (refine (unhide hDo).mono ?_; rintro e w1 ⟨rfl, hd1, hk1⟩)))
          rw [Exit.noGoto_ret]
          go_ret
          exact ⟨rfl, (unhide HPs) ▸ hd1, ((hk2.mono (by simp)).trans (unhide hKk)).trans hk1⟩
      · go_wp2
        rw [Exit.noGoto_ret]
        go_ret
        have : L.drop k = [] := List.drop_eq_nil_of_le (by omega)
        have hp := unhide hPk
        rw [this] at hp
        simp only [Dev.puts] at hp
        exact ⟨rfl, hp ▸ hDk, ((hk2.mono (by simp)).trans (unhide hKk))⟩
  · have hU : D.write x ep f L = (D.ref x ep (hasS D.S.length f n), D) := by simp [Dev.write, hlen, hz]
    rw [hU]
    have hne : (D.ref x ep (hasS D.S.length f n) != 0) = true := by simpa using hz
    clear hU
    go_enter Try.func22, Try.ntmps22
    go_wp2
    generalize (w.alloc (.cells #[.pointer (some ⟨b, 0, none⟩)] 24)).alloc (.cells #[.int .i64 f] 3) = W at *
    go_step3
    go_wp2
    go_quiet ((first | (go_at_call 53; exact Calls.quiet_of_same (hasSectors53 _ _ _ _ _ (hD.drewN _).sz hD.ok.s1 hf)) | (go_at_call 52; go_must (exact Calls.quiet_of_same (refusal52 _ _ _ _ _ _ _ (hD.drewN _))))))
    go_wp2
    try rw [Exit.noGoto_ret]
    go_ret
    exact ⟨rfl, hD.drewN _, (hk2.mono (by simp)).drewN _⟩

structure Cg (w W : World) (b g : Nat) (D : Dev) : Prop where
  dv : Dv W b g D
  k : Kept [] w W
  ge : w.heap.size ≤ b ∧ w.heap.size ≤ g
theorem Cg.step {w W W' : World} {b g : Nat} {D : Dev} (h : Cg w W b g D) (hk : Kept [] W W') : Cg w W' b g D := ⟨h.dv.kept hk (by simp) (by simp), h.k.trans hk, h.ge⟩
theorem Cg.mut {w W W' : World} {b g : Nat} {D D' : Dev} (h : Cg w W b g D) (hd : Dv W' b g D') (hk : Kept [b, g] W W') : Cg w W' b g D' := ⟨hd, h.k.fresh hk (fun i hi hl => by have := h.ge; simp at hi; omega), h.ge⟩
section
variable {ops : Array Oper} {rest : List Oper} {op : Oper} {a : Act} {w : World} {Q : Exit → Act → World → Prop}
theorem wpSec1G (hw : Region.wanted op (yielded ops a.tmps) = true) (x : Operand) (ho : op.op = .buildSlice 36 1 #[(0, x)]) (s : List Int) (hs : Sec s) (hx : a.eval x = secV s) (h : ∀ W b, b = w.heap.size → Blk W b 38 (u8s s) → Kept [] w W → wpList Try.prog ops Q rest (a.put op.dst (.slice (some ⟨b, 0, none⟩) 1 1)) W) : wpList Try.prog ops Q (op :: rest) a w :=
  BigFrame.wpList_want hw fun _ hK => o_sec1 x ho s hs hx (hK _ _ (h _ _ rfl (Blk.new w 38 _) ((Kept.refl _ _).alloc _)))
end
set_option maxHeartbeats 8000000 in
set_option maxRecDepth 100000 in
theorem cut6 (ao : Option Addr) (m c : Nat) (X : List Sx) (lo : Option Addr) (ln lc : Nat) (L : List (List Int)) (n : Int) (w : World) (hS : Scr w w.heap.size ao m c X) (hm : m ≤ 9223372036854775807) (hL : Secs w lo ln lc L) (hold : L ≠ [] → ∀ h off, lo = some ⟨h, off, none⟩ → h < w.heap.size) (hln : ln ≤ 1048576) (hn : n ≤ 9223372036854775807) : Calls Try.prog 6 #[.slice ao m c, .slice lo ln lc, .int .i64 n] w fun e w' => e = .returned (.bool true) ∧ Kept [] w w' := by
  have HS := hide hS
  have HL := hide hL
  have HO := hide hold
  have HK := hide (Kept.refl [] w)
  have P8 : Hid (∀ W, Calls Try.prog 8 #[.int .i64 40, .int .i64 2] W fun e w' => ∃ b g, e = .returned (.tuple #[.pointer (some ⟨b, 0, none⟩), .int .i64 0]) ∧ W.heap.size ≤ b ∧ W.heap.size ≤ g ∧ Dv w' b g (newDev 40 2) ∧ Kept [] W w') := fun W => new_yes 40 2 W (by decide)
  have P9 : Hid (∀ W, Calls Try.prog 9 #[.int .i64 40, .int .i64 2] W fun e w' => ∃ r sg eg, e = .returned (P0 r) ∧ W.heap.size ≤ r ∧ W.heap.size ≤ sg ∧ W.heap.size ≤ eg ∧ Rv w' r sg eg (newDev 40 2) ∧ Kept [] W w') := fun W => r_new_yes 40 2 W (by decide)
  clear hS hL hold
  go_enter Try.func6, Try.ntmps6
  go_wp2_with (
    first
    | (go_at_call 11
       refine (known11 _).mono ?_
       rintro e V9 ⟨rfl, k9⟩
       replace HK := hide ((unhide HK).trans k9)
       clear k9
       refine Stp.go ?_))
  constructor
  go_wp2_with (
    first
    | (go_at_call 12
       refine (much12 w.heap.size ao m c X _ ((unhide HS).kept (unhide HK) (by simp)) hm).mono ?_
       rintro e V3 ⟨⟨rm, rfl⟩, k3⟩
       replace HK := hide ((unhide HK).trans k3)
       clear k3
       refine Stp.go ?_))
  constructor
  cases rm with
  | true =>
    go_wp2_with fail
    go_ret
    exact ⟨rfl, unhide HK⟩
  | false =>
    by_cases h40 : (40 : Int) < ln
    · go_wp2_with fail
      go_ret
      exact ⟨rfl, unhide HK⟩
    by_cases hneg : n < 0
    · go_wp2_with fail
      go_ret
      exact ⟨rfl, unhide HK⟩
    go_wp2_with (
      first
      | (go_at_call 8
         refine (unhide P8 _).mono ?_
         rintro e V1 ⟨b, g, rfl, hb1, hg1, hd1, k1⟩
         have HD := hide hd1
         have HBG : Hid (w.heap.size ≤ b ∧ w.heap.size ≤ g) := by have := (unhide HK).size; exact ⟨by omega, by omega⟩
         replace HK := hide ((unhide HK).trans k1)
         clear hb1 hg1 hd1 k1
         refine Stp.go ?_))
    constructor
    go_wp2_with (
      first
      | (go_at_call 9
         refine (unhide P9 _).mono ?_
         rintro e V2 ⟨r, sg, eg, rfl, hr1, hs1, he1, hR, k2⟩
         have h1 := (unhide HD).lt
         have h2 := unhide HBG
         have h3 := (unhide HK).size
         have SG : Hid (Sg w V2 b g r sg eg (newDev 40 2)) := ⟨(unhide HD).kept k2 (by simp) (by simp), hR, ⟨⟨by omega, by omega, by omega, by omega, by omega⟩, by omega, by omega, by omega, by omega, by omega, by omega⟩, tz_new 40 2, (unhide HK).trans k2⟩
         clear hr1 hs1 he1 hR h1 h2 h3 HD HBG HK k2
         refine Stp.go ?_))
    constructor
    go_wp2_with (
      first
      | (go_at_call 10; refine (num10 _ _).mono ?_; rintro e w' ⟨rfl, hww⟩; obtain rfl := hww.symm; clear hww))
    obtain ⟨D, hDN, hDS, SG⟩ : ∃ D : Dev, D.N = 2 ∧ D.S.length = 40 ∧ Hid (Sg w V2 b g r sg eg D) := ⟨newDev 40 2, rfl, by simp [newDev, noughts], SG⟩
    go_loopw [7, 9, 10, 11] (fun d rr ok i wr => ∃ b g r sg eg k : Nat, ∃ D : Dev, D.N = 2 ∧ D.S.length = 40 ∧ k ≤ m ∧ k ≤ 40 ∧ d = P0 b ∧ rr = P0 r ∧ ok = .bool true ∧ i = .int .i64 k ∧ Hid (Sg w wr b g r sg eg D)) (fun _ _ _ i _ => 40 - (intOf i).toNat)
    case atStart => exact ⟨b, g, r, sg, eg, 0, D, hDN, hDS, by omega, by omega, rfl, rfl, rfl, rfl, SG⟩
    case round =>
      clear SG hDN hDS
      obtain ⟨b, g, r, sg, eg, k, D, hDN, hDS, hk, hk4, rfl, rfl, rfl, rfl, SG⟩ := hrel
      by_cases hlt : k < m
      · by_cases h4 : k < 40
        · obtain ⟨x, hx⟩ : ∃ x, X[k]? = some x := ⟨_, List.getElem?_eq_getElem (by rw [(unhide HS).len]; exact hlt)⟩
          have hS3 := (unhide HS).kept (unhide SG).k (by simp)
          obtain ⟨h, off, rfl, hg, hl⟩ := hS3.lies (by intro e; rw [e] at hx; simp at hx)
          have HR := hide (hl k x hx)
          have HX := hide (hS3.ok x (List.mem_of_getElem? hx))
          have hlC := C_len (unhide HX)
          obtain ⟨ecap, ce, ve⟩ := rv_eps (unhide SG).rv
          have he2 : D.E.take 2 = [D.ep 0, D.ep 1] := by
            obtain ⟨e0, e1, e2, e3, e4, e5, e6, e7, he⟩ := e_split (unhide SG).dv.ok.e8
            simp [Dev.ep, he]
          rw [hDN] at ce ve
          rw [he2] at ve
          have VE : Hid (Vals wr (some ⟨eg, 0, none⟩) 2 ecap (i64s [D.ep 0, D.ep 1])) := ve
          have HDN := hide hDN
          have HDS := hide hDS
          clear hl hS3 hg ve he2 hDN hDS
          go_wp2_with (
            first
            | (at_builtin; refine wpAppV (T := 43) (e := 2) (z := .int .i64 0) Try.underlying43 Try.zero2 rfl (by decide) (by rfl) (.const (.slice none 0 0)) (.tmp 61) (by rfl) wr.heap.size (.slice none 0 0) [] (i64s [D.ep 0, D.ep 1]) (by rfl) (some ⟨eg, 0, none⟩) 2 ecap (by rfl) (fun h => by cases h) (unhide VE) (i64s_one _) (World.ownsRow_nil _ _ _ _) (by simp) (Nat.le_refl _) ?_
               intro v4 W4 hO4 g4
               have KB : Hid (Kept [] wr W4) := kept_grown (Kept.refl _ _) g4 (fun k h => by simp [Value.ownBlock] at h)
               have O4 : Hid (W4.ownsRow wr.heap.size 2 1 v4 (i64s [D.ep 0, D.ep 1]).length (i64s [D.ep 0, D.ep 1])) := hO4
               clear hO4 g4
               refine Stp.go ?_))
          constructor
          obtain ⟨g5, ex5, hv4, hg5, B5⟩ := owns_blk (unhide O4) (by simp [i64s])
          rw [i64s_len] at hv4
          subst hv4
          have B5' := hide B5
          have H5 : Hid (g5 ∉ [b, g, r, sg, eg]) := by
            have h1 := (unhide SG).dv.lt
            have h2 := (unhide SG).rv.lt
            intro hm
            simp at hm
            omega
          have SG4 := hide ((unhide SG).step (unhide KB))
          have HX4 := hide ((unhide HX).kept (unhide KB) (by simp))
          have P14 := hide (do14 w.heap.size b g r sg eg D x W4 (unhide SG4).dv (unhide SG4).rv (unhide SG4).ap (unhide HX4) (unhide SG4).tz (unhide SG4).k.size)
          replace HR : Hid (W4.rangeAt h (off + k * 134) x.C) := fun j u hj => (unhide KB).cell (unhide HR j u hj) (by simp)
          clear B5 hg5 O4 KB HX HX4 SG VE ce
          go_wp2_with (
            first
            | (refine wpLoadA row40 (by rfl) (.tmp 68) (by rfl) h (off + k * 134) (by kernel_rfl) x.C hlC (unhide HR) ?_
               refine Stp.go ?_))
          constructor
          go_wp2_with fail
          refine (unhide P14).mono ?_
          intro e V5 hdo
          obtain ⟨b', g', r', sg', eg', rfl, hd', hr', ap', k', fr'⟩ := hdo
          have SG2 := hide (Sg.do (unhide SG4) (Nx.next D x) hd' hr' ap' k')
          have B6 := hide ((unhide B5').kept k' (unhide H5))
          obtain ⟨D', hD'⟩ : ∃ D', Dev.next D x = D' := ⟨_, rfl⟩
          have hnx := Nx.next D x
          rw [hD'] at SG2 hnx
          have hge : ∀ j : Nat, D.ep j ≤ D'.ep j := fun j => hnx.e j
          have HN2 : Hid (D'.N = 2) := hnx.N.trans (unhide HDN)
          have HS2 : Hid (D'.S.length = 40) := hnx.S.trans (unhide HDS)
          have HGE := hide hge
          clear hd' hr' ap' k' fr' P14 HR SG4 hD' hnx B5' H5 hge HDN HDS
          go_wp2_with fail
          go_loopw [10, 13] (fun ok nn wv => ∃ j : Nat, j ≤ 2 ∧ ok = .bool true ∧ nn = .int .i64 j ∧ Hid (Kept [] V5 wv)) (fun _ nn _ => 2 - (intOf nn).toNat)
          case atStart => exact ⟨0, by omega, rfl, rfl, Kept.refl _ _⟩
          case round =>
            obtain ⟨j, hj, rfl, rfl, KV⟩ := hrel
            by_cases hj2 : j < 2
            · have hep : D'.epoch j = (D'.ep j, 0) := by
                unfold Dev.epoch
                rw [if_pos (by rw [unhide HN2]; simp [hasN]; omega)]
              have P19 := hide (epoch19 b' g' D' j _ ((unhide SG2).dv.kept (unhide KV) (by simp) (by simp)))
              rw [hep] at P19
              have hc12 : wr.cell? ⟨g5, j, none⟩ = some (.int .i64 (D.ep j)) := fits_cell ((unhide B6).kept (unhide KV) (by simp)) j _ (by
                rcases (show j = 0 ∨ j = 1 by omega) with rfl | rfl <;> rfl)
              have hge := unhide HGE j
              clear hep
              go_wp2_with fail
              refine (unhide P19).mono ?_
              rintro e V6 ⟨rfl, hw6⟩
              obtain rfl := hw6.symm
              clear P19
              go_wp2_with fail
              go_roundw
              case rel => exact ⟨j + 1, by omega, rfl, by go_num, KV⟩
              case measure => simp [intOf]; omega
            · go_wp2_with fail
              go_roundw
              case rel => exact ⟨b', g', r', sg', eg', k + 1, D', unhide HN2, unhide HS2, by omega, by omega, rfl, rfl, rfl, by go_num, (unhide SG2).step (unhide KV)⟩
              case measure => simp [intOf]; omega
        · go_wp2_with fail
          obtain ⟨D1, hD1⟩ : ∃ D1, D.uncut = D1 := ⟨_, rfl⟩
          have hN1 : D1.N = 2 := by rw [← hD1]; exact hDN
          have hS1 : D1.S.length = 40 := by rw [← hD1]; exact hDS
          have hs1 : D1.set = false := by rw [← hD1]; rfl
          have hok1 : ∀ x, D1.ep x = D.ep x := fun x => by rw [← hD1]; rfl
          have hep : D.epoch 0 = (D.ep 0, 0) := by unfold Dev.epoch; rw [if_pos (by rw [hDN]; simp [hasN])]
          have hep1 : D1.epoch 0 = (D1.ep 0, 0) := by unfold Dev.epoch; rw [if_pos (by rw [hN1]; simp [hasN])]
          have hbd := epoch_bd (unhide SG).dv.ok 0
          rw [hep, ← hok1] at hbd
          have P20 : Hid (∀ W, Dv W b g D → Calls Try.prog 20 #[P0 b] W fun e w' => e = .returned (.bool (!D.lost)) ∧ Dv w' b g D1 ∧ Kept [b, g] W w') := fun W h => by have := whole20 b g D W h; rw [hD1] at this; exact this
          have HF := hide (fun h => fenced_write hN1 hS1 h [fullS 1] (by simp))
          have HG := hide (fun h => fenced_fence hN1 h)
          have HCW := hide (cut_write hN1 hS1 hbd.1 hs1 n (by omega) L)
          obtain ⟨nw, hnw⟩ : ∃ nw, D1.ep 0 = nw := ⟨_, rfl⟩
          rw [hnw] at hbd hep1
          have P19 : Hid (∀ W, Dv W b g D1 → Calls Try.prog 19 #[P0 b, .int .i64 0] W fun e w' => e = .returned (.tuple #[.int .i64 nw, .int .i64 0]) ∧ w' = W) := fun W h => by have := epoch19 b g D1 0 W h; rw [hep1] at this; exact this
          have HNW := hide hnw
          have HN1 := hide hN1
          have HS1 := hide hS1
          simp only at hbd
          clear hok1 hep hep1 hDN hDS hD1 hs1 hN1 hS1 hnw
          go_wp2_with (
            first
            | (go_at_call 20
               refine (unhide P20 _ (unhide SG).dv).mono ?_
               rintro e U1 ⟨rfl, d7, k7⟩
               have CG : Hid (Cg w U1 b g D1) := ⟨d7, (unhide SG).k.fresh k7 (fun i hi hl => by have := (unhide SG).ap.ge; simp at hi; omega), ⟨(unhide SG).ap.ge.1, (unhide SG).ap.ge.2.1⟩⟩
               clear d7 k7 SG P20
               refine Stp.go ?_))
          constructor
          go_wp2_with (
            first
            | (go_at_call 19
               refine (unhide P19 _ (unhide CG).dv).mono ?_
               rintro e U2 ⟨rfl, hw9⟩
               obtain rfl := hw9.symm
               clear P19
               refine Stp.go ?_))
          constructor
          go_wp2_with (
            first
            | (go_at_call 21
               refine (copy21 b g D1 _ (unhide CG).dv).mono ?_
               rintro e U3 ⟨b2, g2, rfl, hb1, hg1, d2, k2⟩
               have CB : Hid (Cg w U3 b2 g2 D1) := ⟨d2, (unhide CG).k.trans k2, by have := (unhide CG).k.size; exact ⟨by omega, by omega⟩⟩
               have HB2 : Hid (b2 ≠ b ∧ b2 ≠ g ∧ g2 ≠ b ∧ g2 ≠ g) := by have := (unhide CG).dv.lt; exact ⟨by omega, by omega, by omega, by omega⟩
               replace CG := hide ((unhide CG).step k2)
               clear hb1 hg1 d2 k2
               refine Stp.go ?_))
          constructor
          replace CB : Hid (Dv U3 b2 g2 D1) := (unhide CB).dv
          have P17 : Hid (∀ W, Dv W b g D1 → Dv W b2 g2 D1 → Calls Try.prog 17 #[P0 b, P0 b2] W fun e w' => e = .returned (.bool true) ∧ Kept [] W w') := fun W h h2 => by have := same17 b g b2 g2 D1 D1 W h h2; rw [same_self] at this; exact this
          by_cases hpos : 0 < nw
          · have P22 : Hid (∀ (W : World) (p4 : Nat), Dv W b g D1 → Secs W (some ⟨p4, 0, none⟩) 1 1 [fullS 1] → p4 ≠ b ∧ p4 ≠ g → Calls Try.prog 22 #[P0 b, .int .i64 0, .int .i64 (nw - 1), .int .i64 0, .slice (some ⟨p4, 0, none⟩) 1 1] W fun e w' => e = .returned (.int .i64 8) ∧ Dv w' b g D1 ∧ Kept [b, g] W w') := fun W p4 h hs hp => by
              have := write22 b g D1 0 (nw - 1) 0 (some ⟨p4, 0, none⟩) 1 1 [fullS 1] W h (by omega) (by omega) hs (fun h off e => by cases e; simp; omega)
              have h2 := unhide HF (by rw [unhide HNW]; exact hpos)
              rw [unhide HNW] at h2
              rw [h2] at this
              exact this
            have P24 : Hid (∀ W : World, Dv W b g D1 → Calls Try.prog 24 #[P0 b, .int .i64 0, .int .i64 (nw - 1), .int .i64 1, .int .i64 9] W fun e w' => e = .returned (.int .i64 8) ∧ Dv w' b g D1 ∧ Kept [b, g] W w') := fun W h => by
              have := fence24 b g D1 0 (nw - 1) 1 9 W h
              have h2 := unhide HG (by rw [unhide HNW]; exact hpos)
              rw [unhide HNW] at h2
              rw [h2] at this
              exact this
            go_wp2_with (
              first
              | (go_at_call 23
                 refine (full23 1 _ (by omega)).mono ?_
                 rintro e U4 ⟨rfl, k4⟩
                 replace CG := hide ((unhide CG).step k4)
                 replace CB := hide ((unhide CB).kept k4 (by simp) (by simp))
                 clear k4
                 refine Stp.go ?_))
            constructor
            go_wp2_with (
              first
              | (refine wpSec1G (by kernel_rfl) (.tmp 110) (by rfl) (fullS 1) (fullS_sec (by omega)) (by kernel_rfl) ?_
                 intro U5 p4 e4 B4 K4
                 have NP : Hid (p4 ≠ b ∧ p4 ≠ g) := by have := (unhide CG).dv.lt; exact ⟨by omega, by omega⟩
                 have V4 := hide (blk_secs (fullS_sec (by omega)) B4)
                 replace CG := hide ((unhide CG).step K4)
                 replace CB := hide ((unhide CB).kept K4 (by simp) (by simp))
                 clear e4 B4 K4
                 refine Stp.go ?_))
            constructor
            go_wp2_with (
              first
              | (go_at_call 22
                 refine (unhide P22 _ _ (unhide CG).dv (unhide V4) (unhide NP)).mono ?_
                 rintro e U6 ⟨rfl, d6, k6⟩
                 replace CG := hide ((unhide CG).mut d6 k6)
                 replace CB := hide ((unhide CB).kept k6 (by have := unhide HB2; simp; omega) (by have := unhide HB2; simp; omega))
                 clear d6 k6 V4 NP
                 refine Stp.go ?_))
            constructor
            go_wp2_with (
              first
              | (go_at_call 10; refine (num10 _ _).mono ?_; rintro e w' ⟨rfl, hww⟩; obtain rfl := hww.symm; clear hww
                 refine Stp.go ?_))
            constructor
            go_wp2_with (
              first
              | (go_at_call 24
                 refine (unhide P24 _ (unhide CG).dv).mono ?_
                 rintro e U7 ⟨rfl, d7, k7⟩
                 replace CG := hide ((unhide CG).mut d7 k7)
                 replace CB := hide ((unhide CB).kept k7 (by have := unhide HB2; simp; omega) (by have := unhide HB2; simp; omega))
                 clear d7 k7
                 refine Stp.go ?_))
            constructor
            go_wp2_with (
              first
              | (go_at_call 10; refine (num10 _ _).mono ?_; rintro e w' ⟨rfl, hww⟩; obtain rfl := hww.symm; clear hww
                 refine Stp.go ?_))
            constructor
            go_wp2_with (
              first
              | (go_at_call 17
                 refine (unhide P17 _ (unhide CG).dv (unhide CB)).mono ?_
                 rintro e U8 ⟨rfl, k8⟩
                 replace CG := hide ((unhide CG).step k8)
                 replace CB := hide ((unhide CB).kept k8 (by simp) (by simp))
                 clear k8))
            obtain ⟨Dc, Dw, hc1, hc2, hlost, hSw, hrd⟩ := unhide HCW (by rw [(unhide HL).len]; omega)
            rw [(unhide HL).len] at hlost
            rw [unhide HNW] at hc2
            have P25 : Hid (∀ W, Dv W b g D1 → Calls Try.prog 25 #[P0 b, .int .i64 n] W fun e w' => e = .returned (.int .i64 0) ∧ Dv w' b g Dc ∧ Kept [b, g] W w') := fun W h => by have := cut25 b g D1 n W h hn; rw [hc1] at this; exact this
            have P22' : Hid (∀ W, Kept [] w W → (w.heap.size ≤ b ∧ w.heap.size ≤ g) → Dv W b g Dc → Calls Try.prog 22 #[P0 b, .int .i64 0, .int .i64 nw, .int .i64 0, .slice lo ln lc] W fun e w' => e = .returned (.int .i64 0) ∧ Dv w' b g Dw ∧ Kept [b, g] W w') := fun W hk hge h => by
              have := write22E b g Dc 0 nw 0 lo ln lc L W h (by omega) (by omega) ((unhide HL).kept hk (fun _ _ _ => by simp)) (fun hne h off e hm => by have := unhide HO hne h off e; simp at hm; omega)
              rw [hc2] at this
              exact this
            have HRD := hide hrd
            have HSW := hide hSw
            clear hc1 hc2 hrd hSw HCW
            by_cases hle : (ln : Int) ≤ n
            · have P20 : Hid (∀ W, Dv W b g Dw → Calls Try.prog 20 #[P0 b] W fun e w' => e = .returned (.bool true) ∧ Dv w' b g Dw.uncut ∧ Kept [b, g] W w') := fun W h => by have := whole20 b g Dw W h; rw [hlost, decide_eq_false (by omega)] at this; exact this
              clear hlost
              go_wp2_with (
                first
                | (go_at_call 25
                   refine (unhide P25 _ (unhide CG).dv).mono ?_
                   rintro e U9 ⟨rfl, d7, k7⟩
                   replace CG := hide ((unhide CG).mut d7 k7)
                   replace CB := hide ((unhide CB).kept k7 (by have := unhide HB2; simp; omega) (by have := unhide HB2; simp; omega))
                   clear d7 k7 P25
                   refine Stp.go ?_))
              constructor
              go_wp2_with (
                first
                | (go_at_call 10; refine (num10 _ _).mono ?_; rintro e w' ⟨rfl, hww⟩; obtain rfl := hww.symm; clear hww
                   refine Stp.go ?_))
              constructor
              go_wp2_with (
                first
                | (go_at_call 22
                   refine (unhide P22' _ (unhide CG).k (unhide CG).ge (unhide CG).dv).mono ?_
                   rintro e U10 ⟨rfl, d7, k7⟩
                   replace CG := hide ((unhide CG).mut d7 k7)
                   replace CB := hide ((unhide CB).kept k7 (by have := unhide HB2; simp; omega) (by have := unhide HB2; simp; omega))
                   clear d7 k7 P22'
                   refine Stp.go ?_))
              constructor
              go_wp2_with (
                first
                | (go_at_call 10; refine (num10 _ _).mono ?_; rintro e w' ⟨rfl, hww⟩; obtain rfl := hww.symm; clear hww
                   refine Stp.go ?_))
              constructor
              go_wp2_with (
                first
                | (go_at_call 20
                   refine (unhide P20 _ (unhide CG).dv).mono ?_
                   rintro e U11 ⟨rfl, d7, k7⟩
                   replace CG := hide ((unhide CG).mut d7 k7)
                   replace CB := hide ((unhide CB).kept k7 (by have := unhide HB2; simp; omega) (by have := unhide HB2; simp; omega))
                   clear d7 k7 P20))
              obtain ⟨Dx, hDx⟩ : ∃ Dx, Dw.uncut = Dx := ⟨_, rfl⟩
              have HRX : Hid (∀ k : Nat, k < 40 → ∃ s t, Dx.read k = (s, 0) ∧ D1.read k = (t, 0) ∧ Sec s ∧ Sec t ∧ (k < ln ∧ (k : Int) < n → L[k]? = some s) ∧ (¬(k < ln ∧ (k : Int) < n) → t = s)) := fun k hk => by
                rw [← hDx]
                exact cut_reads (unhide HL).len (unhide CG).dv.ok.sec (unhide CB).ok.sec (unhide HSW) (unhide HS1) (unhide HRD) k hk
              rw [hDx] at CG
              clear hDx HRD HSW HS1 HN1 HNW
              go_loopw [19] (fun i wv => ∃ k : Nat, k ≤ 40 ∧ i = .int .i64 k ∧ Hid (Cg w wv b g Dx) ∧ Hid (Dv wv b2 g2 D1)) (fun i _ => 40 - (intOf i).toNat)
              case atStart => exact ⟨0, by omega, rfl, CG, CB⟩
              case round =>
                clear CG CB
                obtain ⟨k, hk, rfl, CG, CB⟩ := hrel
                by_cases hk4 : k < 40
                · obtain ⟨s, t, hr1, hr2, hs, ht, hin, hout⟩ := unhide HRX k hk4
                  have P26 : Hid (∀ W, Dv W b g Dx → Calls Try.prog 26 #[P0 b, .int .i64 k] W fun e w' => e = .returned (.tuple #[secV s, .int .i64 0]) ∧ Kept [] W w') := fun W h => by have := read26 b g Dx k W h (by omega); rw [hr1] at this; exact this
                  have P26' : Hid (∀ W, Dv W b2 g2 D1 → Calls Try.prog 26 #[P0 b2, .int .i64 k] W fun e w' => e = .returned (.tuple #[secV t, .int .i64 0]) ∧ Kept [] W w') := fun W h => by have := read26 b2 g2 D1 k W h (by omega); rw [hr2] at this; exact this
                  have HSs := hide hs
                  have HSt := hide ht
                  clear hr1 hr2 hs ht
                  by_cases hc : k < ln ∧ (k : Int) < n
                  · have hgs := hin hc
                    obtain ⟨hc1, hc2⟩ := hc
                    have hL3 := (unhide HL).kept (unhide CG).k (X := []) (fun _ _ _ => by simp)
                    obtain ⟨h, off, rfl, hg⟩ := hL3.lies (by intro e; rw [e] at hgs; simp at hgs)
                    have hrk := hg k (by rw [hL3.len]; exact hc1)
                    have hgs2 : L[k]'(by rw [hL3.len]; exact hc1) = s := by have := List.getElem?_eq_getElem (l := L) (i := k) (by rw [hL3.len]; exact hc1); rw [this] at hgs; simpa using hgs
                    rw [hgs2] at hrk
                    have HH : Hid (h < w.heap.size) := unhide HO (by intro e; rw [e] at hgs; simp at hgs) h off rfl
                    have HR : Hid (wr.rangeAt h (off + k * 64) (u8s s)) := hrk
                    clear hrk hg hgs hgs2 hL3 hin hout
                    go_wp2_with (
                      first
                      | (go_at_call 26
                         refine (unhide P26 _ (unhide CG).dv).mono ?_
                         rintro e X1 ⟨rfl, K1⟩
                         replace CG := hide ((unhide CG).step K1)
                         replace CB := hide ((unhide CB).kept K1 (by simp) (by simp))
                         replace HR : Hid (X1.rangeAt h (off + k * 64) (u8s s)) := fun j u hj => K1.cell (unhide HR j u hj) (by simp)
                         clear K1
                         refine Stp.go ?_))
                    constructor
                    go_wp2_with (
                      first
                      | (refine wpNew row38 (u8s nought) (sec_u8 nought_sec) zero38 20 (by rfl) (by rfl) (by rfl) (.tmp 164) (by rfl) (by rfl) (by rfl) (u8s s) (sec_u8 (unhide HSs)) (u8s_one _) (by kernel_rfl) (by kernel_rfl) ?_
                         intro X2 m2 e2 B2 K2
                         replace CG := hide ((unhide CG).step K2)
                         replace CB := hide ((unhide CB).kept K2 (by simp) (by simp))
                         have M1 := hide B2
                         replace HR : Hid (X2.rangeAt h (off + k * 64) (u8s s)) := fun j u hj => K2.cell (unhide HR j u hj) (by simp)
                         clear e2 B2 K2
                         refine Stp.go ?_))
                    constructor
                    go_wp2_with (
                      first
                      | (go_at_call 26
                         refine (unhide P26' _ (unhide CB)).mono ?_
                         rintro e X3 ⟨rfl, K3⟩
                         replace CG := hide ((unhide CG).step K3)
                         replace CB := hide ((unhide CB).kept K3 (by simp) (by simp))
                         replace M1 := hide ((unhide M1).kept K3 (by simp))
                         replace HR : Hid (X3.rangeAt h (off + k * 64) (u8s s)) := fun j u hj => K3.cell (unhide HR j u hj) (by simp)
                         clear K3
                         refine Stp.go ?_))
                    constructor
                    go_wp2_with (
                      first
                      | (refine wpNew row38 (u8s nought) (sec_u8 nought_sec) zero38 22 (by rfl) (by rfl) (by rfl) (.tmp 170) (by rfl) (by rfl) (by rfl) (u8s t) (sec_u8 (unhide HSt)) (u8s_one _) (by kernel_rfl) (by kernel_rfl) ?_
                         intro X4 m4 e4 B4 K4
                         have HP : Hid (m2 ≠ m4 ∧ m4 ≠ b ∧ m4 ≠ g ∧ m4 ≠ b2 ∧ m4 ≠ g2 ∧ w.heap.size ≤ m4) := by have h5 := (unhide M1).lt; have h6 := (unhide CG).dv.lt; have h7 := (unhide CB).lt; have h8 := (unhide CG).k.size; exact ⟨by omega, by omega, by omega, by omega, by omega, by omega⟩
                         replace CG := hide ((unhide CG).step K4)
                         replace CB := hide ((unhide CB).kept K4 (by simp) (by simp))
                         replace M1 := hide ((unhide M1).kept K4 (by simp))
                         have M2 := hide B4
                         replace HR : Hid (X4.rangeAt h (off + k * 64) (u8s s)) := fun j u hj => K4.cell (unhide HR j u hj) (by simp)
                         clear e4 B4 K4
                         refine Stp.go ?_))
                    constructor
                    go_wp2_with (
                      first
                      | (refine wpLoadA row38 (by rfl) (.tmp 183) (by rfl) h (off + k * 64) (by kernel_rfl) (u8s s) (sec_u8 (unhide HSs)) (unhide HR) ?_
                         refine Stp.go ?_))
                    constructor
                    go_wp2_with (
                      first
                      | (refine wpStoreW row38 (by rfl) (.tmp 22) (.tmp 184) (by rfl) (by rfl) m4 (u8s t) (u8s s) (by kernel_rfl) (by kernel_rfl) (sec_u8 (unhide HSs)) (u8s_one _) (unhide M2) (sec_u8 (unhide HSt)) ?_
                         intro X5 B5 K5
                         replace M1 := hide ((unhide M1).kept K5 (by have := unhide HP; simp; omega))
                         replace CB := hide ((unhide CB).kept K5 (by have := unhide HP; simp; omega) (by have := unhide HP; simp; omega))
                         replace CG : Hid (Cg w X5 b g Dx) := ⟨(unhide CG).dv.kept K5 (by have := unhide HP; simp; omega) (by have := unhide HP; simp; omega), (unhide CG).k.fresh K5 (fun i hi hl => by have := unhide HP; simp at hi; omega), (unhide CG).ge⟩
                         replace M2 := hide B5
                         clear B5 K5
                         refine Stp.go ?_))
                    constructor
                    go_wp2_with (
                      first
                      | (refine wpLoadA row38 (by rfl) (.tmp 20) (by rfl) m2 0 (by kernel_rfl) (u8s s) (sec_u8 (unhide HSs)) (unhide M1).range ?_
                         refine Stp.go ?_))
                    constructor
                    go_wp2_with (
                      first
                      | (refine wpLoadA row38 (by rfl) (.tmp 22) (by rfl) m4 0 (by kernel_rfl) (u8s s) (sec_u8 (unhide HSs)) (unhide M2).range ?_
                         refine Stp.go ?_))
                    constructor
                    go_wp2_with (
                      first
                      | (refine wpNeqSS (by rfl) (.tmp 185) (.tmp 186) (by rfl) s (unhide HSs) (by kernel_rfl) (by kernel_rfl) ?_))
                    go_roundw
                    case rel => exact ⟨k + 1, by omega, by go_num, CG, CB⟩
                    case measure => simp [intOf]; omega
                  · obtain rfl := (hout hc).symm
                    clear hin hout
                    by_cases hc1 : k < ln
                    · have hc2 : n ≤ (k : Int) := by omega
                      clear hc
                      exfalso
                      omega
                    · clear hc
                      go_wp2_with (
                        first
                        | (go_at_call 26
                           refine (unhide P26 _ (unhide CG).dv).mono ?_
                           rintro e X1 ⟨rfl, K1⟩
                           replace CG := hide ((unhide CG).step K1)
                           replace CB := hide ((unhide CB).kept K1 (by simp) (by simp))
                           clear K1
                           refine Stp.go ?_))
                      constructor
                      go_wp2_with (
                        first
                        | (refine wpNew row38 (u8s nought) (sec_u8 nought_sec) zero38 20 (by rfl) (by rfl) (by rfl) (.tmp 164) (by rfl) (by rfl) (by rfl) (u8s s) (sec_u8 (unhide HSs)) (u8s_one _) (by kernel_rfl) (by kernel_rfl) ?_
                           intro X2 m2 e2 B2 K2
                           replace CG := hide ((unhide CG).step K2)
                           replace CB := hide ((unhide CB).kept K2 (by simp) (by simp))
                           have M1 := hide B2
                           clear e2 B2 K2
                           refine Stp.go ?_))
                      constructor
                      go_wp2_with (
                        first
                        | (go_at_call 26
                           refine (unhide P26' _ (unhide CB)).mono ?_
                           rintro e X3 ⟨rfl, K3⟩
                           replace CG := hide ((unhide CG).step K3)
                           replace CB := hide ((unhide CB).kept K3 (by simp) (by simp))
                           replace M1 := hide ((unhide M1).kept K3 (by simp))
                           clear K3
                           refine Stp.go ?_))
                      constructor
                      go_wp2_with (
                        first
                        | (refine wpNew row38 (u8s nought) (sec_u8 nought_sec) zero38 22 (by rfl) (by rfl) (by rfl) (.tmp 170) (by rfl) (by rfl) (by rfl) (u8s s) (sec_u8 (unhide HSt)) (u8s_one _) (by kernel_rfl) (by kernel_rfl) ?_
                           intro X4 m4 e4 B4 K4
                           have HP : Hid (m2 ≠ m4 ∧ m4 ≠ b ∧ m4 ≠ g ∧ m4 ≠ b2 ∧ m4 ≠ g2 ∧ w.heap.size ≤ m4) := by have h5 := (unhide M1).lt; have h6 := (unhide CG).dv.lt; have h7 := (unhide CB).lt; have h8 := (unhide CG).k.size; exact ⟨by omega, by omega, by omega, by omega, by omega, by omega⟩
                           replace CG := hide ((unhide CG).step K4)
                           replace CB := hide ((unhide CB).kept K4 (by simp) (by simp))
                           replace M1 := hide ((unhide M1).kept K4 (by simp))
                           have M2 := hide B4
                           clear e4 B4 K4
                           refine Stp.go ?_))
                      constructor
                      go_wp2_with (
                        first
                        | (refine wpLoadA row38 (by rfl) (.tmp 20) (by rfl) m2 0 (by kernel_rfl) (u8s s) (sec_u8 (unhide HSs)) (unhide M1).range ?_
                           refine Stp.go ?_))
                      constructor
                      go_wp2_with (
                        first
                        | (refine wpLoadA row38 (by rfl) (.tmp 22) (by rfl) m4 0 (by kernel_rfl) (u8s s) (sec_u8 (unhide HSs)) (unhide M2).range ?_
                           refine Stp.go ?_))
                      constructor
                      go_wp2_with (
                        first
                        | (refine wpNeqSS (by rfl) (.tmp 185) (.tmp 186) (by rfl) s (unhide HSs) (by kernel_rfl) (by kernel_rfl) ?_))
                      go_roundw
                      case rel => exact ⟨k + 1, by omega, by go_num, CG, CB⟩
                      case measure => simp [intOf]; omega
                · go_wp2_with fail
                  go_ret
                  exact ⟨rfl, (unhide CG).k⟩
            · have P20 : Hid (∀ W, Dv W b g Dw → Calls Try.prog 20 #[P0 b] W fun e w' => e = .returned (.bool false) ∧ Dv w' b g Dw.uncut ∧ Kept [b, g] W w') := fun W h => by have := whole20 b g Dw W h; rw [hlost, decide_eq_true (by omega)] at this; exact this
              clear hlost
              go_wp2_with (
                first
                | (go_at_call 25
                   refine (unhide P25 _ (unhide CG).dv).mono ?_
                   rintro e U9 ⟨rfl, d7, k7⟩
                   replace CG := hide ((unhide CG).mut d7 k7)
                   replace CB := hide ((unhide CB).kept k7 (by have := unhide HB2; simp; omega) (by have := unhide HB2; simp; omega))
                   clear d7 k7 P25
                   refine Stp.go ?_))
              constructor
              go_wp2_with (
                first
                | (go_at_call 10; refine (num10 _ _).mono ?_; rintro e w' ⟨rfl, hww⟩; obtain rfl := hww.symm; clear hww
                   refine Stp.go ?_))
              constructor
              go_wp2_with (
                first
                | (go_at_call 22
                   refine (unhide P22' _ (unhide CG).k (unhide CG).ge (unhide CG).dv).mono ?_
                   rintro e U10 ⟨rfl, d7, k7⟩
                   replace CG := hide ((unhide CG).mut d7 k7)
                   replace CB := hide ((unhide CB).kept k7 (by have := unhide HB2; simp; omega) (by have := unhide HB2; simp; omega))
                   clear d7 k7 P22'
                   refine Stp.go ?_))
              constructor
              go_wp2_with (
                first
                | (go_at_call 10; refine (num10 _ _).mono ?_; rintro e w' ⟨rfl, hww⟩; obtain rfl := hww.symm; clear hww
                   refine Stp.go ?_))
              constructor
              go_wp2_with (
                first
                | (go_at_call 20
                   refine (unhide P20 _ (unhide CG).dv).mono ?_
                   rintro e U11 ⟨rfl, d7, k7⟩
                   replace CG := hide ((unhide CG).mut d7 k7)
                   replace CB := hide ((unhide CB).kept k7 (by have := unhide HB2; simp; omega) (by have := unhide HB2; simp; omega))
                   clear d7 k7 P20))
              obtain ⟨Dx, hDx⟩ : ∃ Dx, Dw.uncut = Dx := ⟨_, rfl⟩
              have HRX : Hid (∀ k : Nat, k < 40 → ∃ s t, Dx.read k = (s, 0) ∧ D1.read k = (t, 0) ∧ Sec s ∧ Sec t ∧ (k < ln ∧ (k : Int) < n → L[k]? = some s) ∧ (¬(k < ln ∧ (k : Int) < n) → t = s)) := fun k hk => by
                rw [← hDx]
                exact cut_reads (unhide HL).len (unhide CG).dv.ok.sec (unhide CB).ok.sec (unhide HSW) (unhide HS1) (unhide HRD) k hk
              rw [hDx] at CG
              clear hDx HRD HSW HS1 HN1 HNW
              go_loopw [19] (fun i wv => ∃ k : Nat, k ≤ 40 ∧ i = .int .i64 k ∧ Hid (Cg w wv b g Dx) ∧ Hid (Dv wv b2 g2 D1)) (fun i _ => 40 - (intOf i).toNat)
              case atStart => exact ⟨0, by omega, rfl, CG, CB⟩
              case round =>
                clear CG CB
                obtain ⟨k, hk, rfl, CG, CB⟩ := hrel
                by_cases hk4 : k < 40
                · obtain ⟨s, t, hr1, hr2, hs, ht, hin, hout⟩ := unhide HRX k hk4
                  have P26 : Hid (∀ W, Dv W b g Dx → Calls Try.prog 26 #[P0 b, .int .i64 k] W fun e w' => e = .returned (.tuple #[secV s, .int .i64 0]) ∧ Kept [] W w') := fun W h => by have := read26 b g Dx k W h (by omega); rw [hr1] at this; exact this
                  have P26' : Hid (∀ W, Dv W b2 g2 D1 → Calls Try.prog 26 #[P0 b2, .int .i64 k] W fun e w' => e = .returned (.tuple #[secV t, .int .i64 0]) ∧ Kept [] W w') := fun W h => by have := read26 b2 g2 D1 k W h (by omega); rw [hr2] at this; exact this
                  have HSs := hide hs
                  have HSt := hide ht
                  clear hr1 hr2 hs ht
                  by_cases hc : k < ln ∧ (k : Int) < n
                  · have hgs := hin hc
                    obtain ⟨hc1, hc2⟩ := hc
                    have hL3 := (unhide HL).kept (unhide CG).k (X := []) (fun _ _ _ => by simp)
                    obtain ⟨h, off, rfl, hg⟩ := hL3.lies (by intro e; rw [e] at hgs; simp at hgs)
                    have hrk := hg k (by rw [hL3.len]; exact hc1)
                    have hgs2 : L[k]'(by rw [hL3.len]; exact hc1) = s := by have := List.getElem?_eq_getElem (l := L) (i := k) (by rw [hL3.len]; exact hc1); rw [this] at hgs; simpa using hgs
                    rw [hgs2] at hrk
                    have HH : Hid (h < w.heap.size) := unhide HO (by intro e; rw [e] at hgs; simp at hgs) h off rfl
                    have HR : Hid (wr.rangeAt h (off + k * 64) (u8s s)) := hrk
                    clear hrk hg hgs hgs2 hL3 hin hout
                    go_wp2_with (
                      first
                      | (go_at_call 26
                         refine (unhide P26 _ (unhide CG).dv).mono ?_
                         rintro e X1 ⟨rfl, K1⟩
                         replace CG := hide ((unhide CG).step K1)
                         replace CB := hide ((unhide CB).kept K1 (by simp) (by simp))
                         replace HR : Hid (X1.rangeAt h (off + k * 64) (u8s s)) := fun j u hj => K1.cell (unhide HR j u hj) (by simp)
                         clear K1
                         refine Stp.go ?_))
                    constructor
                    go_wp2_with (
                      first
                      | (refine wpNew row38 (u8s nought) (sec_u8 nought_sec) zero38 20 (by rfl) (by rfl) (by rfl) (.tmp 164) (by rfl) (by rfl) (by rfl) (u8s s) (sec_u8 (unhide HSs)) (u8s_one _) (by kernel_rfl) (by kernel_rfl) ?_
                         intro X2 m2 e2 B2 K2
                         replace CG := hide ((unhide CG).step K2)
                         replace CB := hide ((unhide CB).kept K2 (by simp) (by simp))
                         have M1 := hide B2
                         replace HR : Hid (X2.rangeAt h (off + k * 64) (u8s s)) := fun j u hj => K2.cell (unhide HR j u hj) (by simp)
                         clear e2 B2 K2
                         refine Stp.go ?_))
                    constructor
                    go_wp2_with (
                      first
                      | (go_at_call 26
                         refine (unhide P26' _ (unhide CB)).mono ?_
                         rintro e X3 ⟨rfl, K3⟩
                         replace CG := hide ((unhide CG).step K3)
                         replace CB := hide ((unhide CB).kept K3 (by simp) (by simp))
                         replace M1 := hide ((unhide M1).kept K3 (by simp))
                         replace HR : Hid (X3.rangeAt h (off + k * 64) (u8s s)) := fun j u hj => K3.cell (unhide HR j u hj) (by simp)
                         clear K3
                         refine Stp.go ?_))
                    constructor
                    go_wp2_with (
                      first
                      | (refine wpNew row38 (u8s nought) (sec_u8 nought_sec) zero38 22 (by rfl) (by rfl) (by rfl) (.tmp 170) (by rfl) (by rfl) (by rfl) (u8s t) (sec_u8 (unhide HSt)) (u8s_one _) (by kernel_rfl) (by kernel_rfl) ?_
                         intro X4 m4 e4 B4 K4
                         have HP : Hid (m2 ≠ m4 ∧ m4 ≠ b ∧ m4 ≠ g ∧ m4 ≠ b2 ∧ m4 ≠ g2 ∧ w.heap.size ≤ m4) := by have h5 := (unhide M1).lt; have h6 := (unhide CG).dv.lt; have h7 := (unhide CB).lt; have h8 := (unhide CG).k.size; exact ⟨by omega, by omega, by omega, by omega, by omega, by omega⟩
                         replace CG := hide ((unhide CG).step K4)
                         replace CB := hide ((unhide CB).kept K4 (by simp) (by simp))
                         replace M1 := hide ((unhide M1).kept K4 (by simp))
                         have M2 := hide B4
                         replace HR : Hid (X4.rangeAt h (off + k * 64) (u8s s)) := fun j u hj => K4.cell (unhide HR j u hj) (by simp)
                         clear e4 B4 K4
                         refine Stp.go ?_))
                    constructor
                    go_wp2_with (
                      first
                      | (refine wpLoadA row38 (by rfl) (.tmp 183) (by rfl) h (off + k * 64) (by kernel_rfl) (u8s s) (sec_u8 (unhide HSs)) (unhide HR) ?_
                         refine Stp.go ?_))
                    constructor
                    go_wp2_with (
                      first
                      | (refine wpStoreW row38 (by rfl) (.tmp 22) (.tmp 184) (by rfl) (by rfl) m4 (u8s t) (u8s s) (by kernel_rfl) (by kernel_rfl) (sec_u8 (unhide HSs)) (u8s_one _) (unhide M2) (sec_u8 (unhide HSt)) ?_
                         intro X5 B5 K5
                         replace M1 := hide ((unhide M1).kept K5 (by have := unhide HP; simp; omega))
                         replace CB := hide ((unhide CB).kept K5 (by have := unhide HP; simp; omega) (by have := unhide HP; simp; omega))
                         replace CG : Hid (Cg w X5 b g Dx) := ⟨(unhide CG).dv.kept K5 (by have := unhide HP; simp; omega) (by have := unhide HP; simp; omega), (unhide CG).k.fresh K5 (fun i hi hl => by have := unhide HP; simp at hi; omega), (unhide CG).ge⟩
                         replace M2 := hide B5
                         clear B5 K5
                         refine Stp.go ?_))
                    constructor
                    go_wp2_with (
                      first
                      | (refine wpLoadA row38 (by rfl) (.tmp 20) (by rfl) m2 0 (by kernel_rfl) (u8s s) (sec_u8 (unhide HSs)) (unhide M1).range ?_
                         refine Stp.go ?_))
                    constructor
                    go_wp2_with (
                      first
                      | (refine wpLoadA row38 (by rfl) (.tmp 22) (by rfl) m4 0 (by kernel_rfl) (u8s s) (sec_u8 (unhide HSs)) (unhide M2).range ?_
                         refine Stp.go ?_))
                    constructor
                    go_wp2_with (
                      first
                      | (refine wpNeqSS (by rfl) (.tmp 185) (.tmp 186) (by rfl) s (unhide HSs) (by kernel_rfl) (by kernel_rfl) ?_))
                    go_roundw
                    case rel => exact ⟨k + 1, by omega, by go_num, CG, CB⟩
                    case measure => simp [intOf]; omega
                  · obtain rfl := (hout hc).symm
                    clear hin hout
                    by_cases hc1 : k < ln
                    · have hc2 : n ≤ (k : Int) := by omega
                      clear hc
                      go_wp2_with (
                        first
                        | (go_at_call 26
                           refine (unhide P26 _ (unhide CG).dv).mono ?_
                           rintro e X1 ⟨rfl, K1⟩
                           replace CG := hide ((unhide CG).step K1)
                           replace CB := hide ((unhide CB).kept K1 (by simp) (by simp))
                           clear K1
                           refine Stp.go ?_))
                      constructor
                      go_wp2_with (
                        first
                        | (refine wpNew row38 (u8s nought) (sec_u8 nought_sec) zero38 20 (by rfl) (by rfl) (by rfl) (.tmp 164) (by rfl) (by rfl) (by rfl) (u8s s) (sec_u8 (unhide HSs)) (u8s_one _) (by kernel_rfl) (by kernel_rfl) ?_
                           intro X2 m2 e2 B2 K2
                           replace CG := hide ((unhide CG).step K2)
                           replace CB := hide ((unhide CB).kept K2 (by simp) (by simp))
                           have M1 := hide B2
                           clear e2 B2 K2
                           refine Stp.go ?_))
                      constructor
                      go_wp2_with (
                        first
                        | (go_at_call 26
                           refine (unhide P26' _ (unhide CB)).mono ?_
                           rintro e X3 ⟨rfl, K3⟩
                           replace CG := hide ((unhide CG).step K3)
                           replace CB := hide ((unhide CB).kept K3 (by simp) (by simp))
                           replace M1 := hide ((unhide M1).kept K3 (by simp))
                           clear K3
                           refine Stp.go ?_))
                      constructor
                      go_wp2_with (
                        first
                        | (refine wpNew row38 (u8s nought) (sec_u8 nought_sec) zero38 22 (by rfl) (by rfl) (by rfl) (.tmp 170) (by rfl) (by rfl) (by rfl) (u8s s) (sec_u8 (unhide HSt)) (u8s_one _) (by kernel_rfl) (by kernel_rfl) ?_
                           intro X4 m4 e4 B4 K4
                           have HP : Hid (m2 ≠ m4 ∧ m4 ≠ b ∧ m4 ≠ g ∧ m4 ≠ b2 ∧ m4 ≠ g2 ∧ w.heap.size ≤ m4) := by have h5 := (unhide M1).lt; have h6 := (unhide CG).dv.lt; have h7 := (unhide CB).lt; have h8 := (unhide CG).k.size; exact ⟨by omega, by omega, by omega, by omega, by omega, by omega⟩
                           replace CG := hide ((unhide CG).step K4)
                           replace CB := hide ((unhide CB).kept K4 (by simp) (by simp))
                           replace M1 := hide ((unhide M1).kept K4 (by simp))
                           have M2 := hide B4
                           clear e4 B4 K4
                           refine Stp.go ?_))
                      constructor
                      go_wp2_with (
                        first
                        | (refine wpLoadA row38 (by rfl) (.tmp 20) (by rfl) m2 0 (by kernel_rfl) (u8s s) (sec_u8 (unhide HSs)) (unhide M1).range ?_
                           refine Stp.go ?_))
                      constructor
                      go_wp2_with (
                        first
                        | (refine wpLoadA row38 (by rfl) (.tmp 22) (by rfl) m4 0 (by kernel_rfl) (u8s s) (sec_u8 (unhide HSs)) (unhide M2).range ?_
                           refine Stp.go ?_))
                      constructor
                      go_wp2_with (
                        first
                        | (refine wpNeqSS (by rfl) (.tmp 185) (.tmp 186) (by rfl) s (unhide HSs) (by kernel_rfl) (by kernel_rfl) ?_))
                      go_roundw
                      case rel => exact ⟨k + 1, by omega, by go_num, CG, CB⟩
                      case measure => simp [intOf]; omega
                    · clear hc
                      go_wp2_with (
                        first
                        | (go_at_call 26
                           refine (unhide P26 _ (unhide CG).dv).mono ?_
                           rintro e X1 ⟨rfl, K1⟩
                           replace CG := hide ((unhide CG).step K1)
                           replace CB := hide ((unhide CB).kept K1 (by simp) (by simp))
                           clear K1
                           refine Stp.go ?_))
                      constructor
                      go_wp2_with (
                        first
                        | (refine wpNew row38 (u8s nought) (sec_u8 nought_sec) zero38 20 (by rfl) (by rfl) (by rfl) (.tmp 164) (by rfl) (by rfl) (by rfl) (u8s s) (sec_u8 (unhide HSs)) (u8s_one _) (by kernel_rfl) (by kernel_rfl) ?_
                           intro X2 m2 e2 B2 K2
                           replace CG := hide ((unhide CG).step K2)
                           replace CB := hide ((unhide CB).kept K2 (by simp) (by simp))
                           have M1 := hide B2
                           clear e2 B2 K2
                           refine Stp.go ?_))
                      constructor
                      go_wp2_with (
                        first
                        | (go_at_call 26
                           refine (unhide P26' _ (unhide CB)).mono ?_
                           rintro e X3 ⟨rfl, K3⟩
                           replace CG := hide ((unhide CG).step K3)
                           replace CB := hide ((unhide CB).kept K3 (by simp) (by simp))
                           replace M1 := hide ((unhide M1).kept K3 (by simp))
                           clear K3
                           refine Stp.go ?_))
                      constructor
                      go_wp2_with (
                        first
                        | (refine wpNew row38 (u8s nought) (sec_u8 nought_sec) zero38 22 (by rfl) (by rfl) (by rfl) (.tmp 170) (by rfl) (by rfl) (by rfl) (u8s s) (sec_u8 (unhide HSt)) (u8s_one _) (by kernel_rfl) (by kernel_rfl) ?_
                           intro X4 m4 e4 B4 K4
                           have HP : Hid (m2 ≠ m4 ∧ m4 ≠ b ∧ m4 ≠ g ∧ m4 ≠ b2 ∧ m4 ≠ g2 ∧ w.heap.size ≤ m4) := by have h5 := (unhide M1).lt; have h6 := (unhide CG).dv.lt; have h7 := (unhide CB).lt; have h8 := (unhide CG).k.size; exact ⟨by omega, by omega, by omega, by omega, by omega, by omega⟩
                           replace CG := hide ((unhide CG).step K4)
                           replace CB := hide ((unhide CB).kept K4 (by simp) (by simp))
                           replace M1 := hide ((unhide M1).kept K4 (by simp))
                           have M2 := hide B4
                           clear e4 B4 K4
                           refine Stp.go ?_))
                      constructor
                      go_wp2_with (
                        first
                        | (refine wpLoadA row38 (by rfl) (.tmp 20) (by rfl) m2 0 (by kernel_rfl) (u8s s) (sec_u8 (unhide HSs)) (unhide M1).range ?_
                           refine Stp.go ?_))
                      constructor
                      go_wp2_with (
                        first
                        | (refine wpLoadA row38 (by rfl) (.tmp 22) (by rfl) m4 0 (by kernel_rfl) (u8s s) (sec_u8 (unhide HSs)) (unhide M2).range ?_
                           refine Stp.go ?_))
                      constructor
                      go_wp2_with (
                        first
                        | (refine wpNeqSS (by rfl) (.tmp 185) (.tmp 186) (by rfl) s (unhide HSs) (by kernel_rfl) (by kernel_rfl) ?_))
                      go_roundw
                      case rel => exact ⟨k + 1, by omega, by go_num, CG, CB⟩
                      case measure => simp [intOf]; omega
                · go_wp2_with fail
                  go_ret
                  exact ⟨rfl, (unhide CG).k⟩
          · go_wp2_with (
              first
              | (go_at_call 17
                 refine (unhide P17 _ (unhide CG).dv (unhide CB)).mono ?_
                 rintro e U8 ⟨rfl, k8⟩
                 replace CG := hide ((unhide CG).step k8)
                 replace CB := hide ((unhide CB).kept k8 (by simp) (by simp))
                 clear k8))
            obtain ⟨Dc, Dw, hc1, hc2, hlost, hSw, hrd⟩ := unhide HCW (by rw [(unhide HL).len]; omega)
            rw [(unhide HL).len] at hlost
            rw [unhide HNW] at hc2
            have P25 : Hid (∀ W, Dv W b g D1 → Calls Try.prog 25 #[P0 b, .int .i64 n] W fun e w' => e = .returned (.int .i64 0) ∧ Dv w' b g Dc ∧ Kept [b, g] W w') := fun W h => by have := cut25 b g D1 n W h hn; rw [hc1] at this; exact this
            have P22' : Hid (∀ W, Kept [] w W → (w.heap.size ≤ b ∧ w.heap.size ≤ g) → Dv W b g Dc → Calls Try.prog 22 #[P0 b, .int .i64 0, .int .i64 nw, .int .i64 0, .slice lo ln lc] W fun e w' => e = .returned (.int .i64 0) ∧ Dv w' b g Dw ∧ Kept [b, g] W w') := fun W hk hge h => by
              have := write22E b g Dc 0 nw 0 lo ln lc L W h (by omega) (by omega) ((unhide HL).kept hk (fun _ _ _ => by simp)) (fun hne h off e hm => by have := unhide HO hne h off e; simp at hm; omega)
              rw [hc2] at this
              exact this
            have HRD := hide hrd
            have HSW := hide hSw
            clear hc1 hc2 hrd hSw HCW
            by_cases hle : (ln : Int) ≤ n
            · have P20 : Hid (∀ W, Dv W b g Dw → Calls Try.prog 20 #[P0 b] W fun e w' => e = .returned (.bool true) ∧ Dv w' b g Dw.uncut ∧ Kept [b, g] W w') := fun W h => by have := whole20 b g Dw W h; rw [hlost, decide_eq_false (by omega)] at this; exact this
              clear hlost
              go_wp2_with (
                first
                | (go_at_call 25
                   refine (unhide P25 _ (unhide CG).dv).mono ?_
                   rintro e U9 ⟨rfl, d7, k7⟩
                   replace CG := hide ((unhide CG).mut d7 k7)
                   replace CB := hide ((unhide CB).kept k7 (by have := unhide HB2; simp; omega) (by have := unhide HB2; simp; omega))
                   clear d7 k7 P25
                   refine Stp.go ?_))
              constructor
              go_wp2_with (
                first
                | (go_at_call 10; refine (num10 _ _).mono ?_; rintro e w' ⟨rfl, hww⟩; obtain rfl := hww.symm; clear hww
                   refine Stp.go ?_))
              constructor
              go_wp2_with (
                first
                | (go_at_call 22
                   refine (unhide P22' _ (unhide CG).k (unhide CG).ge (unhide CG).dv).mono ?_
                   rintro e U10 ⟨rfl, d7, k7⟩
                   replace CG := hide ((unhide CG).mut d7 k7)
                   replace CB := hide ((unhide CB).kept k7 (by have := unhide HB2; simp; omega) (by have := unhide HB2; simp; omega))
                   clear d7 k7 P22'
                   refine Stp.go ?_))
              constructor
              go_wp2_with (
                first
                | (go_at_call 10; refine (num10 _ _).mono ?_; rintro e w' ⟨rfl, hww⟩; obtain rfl := hww.symm; clear hww
                   refine Stp.go ?_))
              constructor
              go_wp2_with (
                first
                | (go_at_call 20
                   refine (unhide P20 _ (unhide CG).dv).mono ?_
                   rintro e U11 ⟨rfl, d7, k7⟩
                   replace CG := hide ((unhide CG).mut d7 k7)
                   replace CB := hide ((unhide CB).kept k7 (by have := unhide HB2; simp; omega) (by have := unhide HB2; simp; omega))
                   clear d7 k7 P20))
              obtain ⟨Dx, hDx⟩ : ∃ Dx, Dw.uncut = Dx := ⟨_, rfl⟩
              have HRX : Hid (∀ k : Nat, k < 40 → ∃ s t, Dx.read k = (s, 0) ∧ D1.read k = (t, 0) ∧ Sec s ∧ Sec t ∧ (k < ln ∧ (k : Int) < n → L[k]? = some s) ∧ (¬(k < ln ∧ (k : Int) < n) → t = s)) := fun k hk => by
                rw [← hDx]
                exact cut_reads (unhide HL).len (unhide CG).dv.ok.sec (unhide CB).ok.sec (unhide HSW) (unhide HS1) (unhide HRD) k hk
              rw [hDx] at CG
              clear hDx HRD HSW HS1 HN1 HNW
              go_loopw [19] (fun i wv => ∃ k : Nat, k ≤ 40 ∧ i = .int .i64 k ∧ Hid (Cg w wv b g Dx) ∧ Hid (Dv wv b2 g2 D1)) (fun i _ => 40 - (intOf i).toNat)
              case atStart => exact ⟨0, by omega, rfl, CG, CB⟩
              case round =>
                clear CG CB
                obtain ⟨k, hk, rfl, CG, CB⟩ := hrel
                by_cases hk4 : k < 40
                · obtain ⟨s, t, hr1, hr2, hs, ht, hin, hout⟩ := unhide HRX k hk4
                  have P26 : Hid (∀ W, Dv W b g Dx → Calls Try.prog 26 #[P0 b, .int .i64 k] W fun e w' => e = .returned (.tuple #[secV s, .int .i64 0]) ∧ Kept [] W w') := fun W h => by have := read26 b g Dx k W h (by omega); rw [hr1] at this; exact this
                  have P26' : Hid (∀ W, Dv W b2 g2 D1 → Calls Try.prog 26 #[P0 b2, .int .i64 k] W fun e w' => e = .returned (.tuple #[secV t, .int .i64 0]) ∧ Kept [] W w') := fun W h => by have := read26 b2 g2 D1 k W h (by omega); rw [hr2] at this; exact this
                  have HSs := hide hs
                  have HSt := hide ht
                  clear hr1 hr2 hs ht
                  by_cases hc : k < ln ∧ (k : Int) < n
                  · have hgs := hin hc
                    obtain ⟨hc1, hc2⟩ := hc
                    have hL3 := (unhide HL).kept (unhide CG).k (X := []) (fun _ _ _ => by simp)
                    obtain ⟨h, off, rfl, hg⟩ := hL3.lies (by intro e; rw [e] at hgs; simp at hgs)
                    have hrk := hg k (by rw [hL3.len]; exact hc1)
                    have hgs2 : L[k]'(by rw [hL3.len]; exact hc1) = s := by have := List.getElem?_eq_getElem (l := L) (i := k) (by rw [hL3.len]; exact hc1); rw [this] at hgs; simpa using hgs
                    rw [hgs2] at hrk
                    have HH : Hid (h < w.heap.size) := unhide HO (by intro e; rw [e] at hgs; simp at hgs) h off rfl
                    have HR : Hid (wr.rangeAt h (off + k * 64) (u8s s)) := hrk
                    clear hrk hg hgs hgs2 hL3 hin hout
                    go_wp2_with (
                      first
                      | (go_at_call 26
                         refine (unhide P26 _ (unhide CG).dv).mono ?_
                         rintro e X1 ⟨rfl, K1⟩
                         replace CG := hide ((unhide CG).step K1)
                         replace CB := hide ((unhide CB).kept K1 (by simp) (by simp))
                         replace HR : Hid (X1.rangeAt h (off + k * 64) (u8s s)) := fun j u hj => K1.cell (unhide HR j u hj) (by simp)
                         clear K1
                         refine Stp.go ?_))
                    constructor
                    go_wp2_with (
                      first
                      | (refine wpNew row38 (u8s nought) (sec_u8 nought_sec) zero38 20 (by rfl) (by rfl) (by rfl) (.tmp 164) (by rfl) (by rfl) (by rfl) (u8s s) (sec_u8 (unhide HSs)) (u8s_one _) (by kernel_rfl) (by kernel_rfl) ?_
                         intro X2 m2 e2 B2 K2
                         replace CG := hide ((unhide CG).step K2)
                         replace CB := hide ((unhide CB).kept K2 (by simp) (by simp))
                         have M1 := hide B2
                         replace HR : Hid (X2.rangeAt h (off + k * 64) (u8s s)) := fun j u hj => K2.cell (unhide HR j u hj) (by simp)
                         clear e2 B2 K2
                         refine Stp.go ?_))
                    constructor
                    go_wp2_with (
                      first
                      | (go_at_call 26
                         refine (unhide P26' _ (unhide CB)).mono ?_
                         rintro e X3 ⟨rfl, K3⟩
                         replace CG := hide ((unhide CG).step K3)
                         replace CB := hide ((unhide CB).kept K3 (by simp) (by simp))
                         replace M1 := hide ((unhide M1).kept K3 (by simp))
                         replace HR : Hid (X3.rangeAt h (off + k * 64) (u8s s)) := fun j u hj => K3.cell (unhide HR j u hj) (by simp)
                         clear K3
                         refine Stp.go ?_))
                    constructor
                    go_wp2_with (
                      first
                      | (refine wpNew row38 (u8s nought) (sec_u8 nought_sec) zero38 22 (by rfl) (by rfl) (by rfl) (.tmp 170) (by rfl) (by rfl) (by rfl) (u8s t) (sec_u8 (unhide HSt)) (u8s_one _) (by kernel_rfl) (by kernel_rfl) ?_
                         intro X4 m4 e4 B4 K4
                         have HP : Hid (m2 ≠ m4 ∧ m4 ≠ b ∧ m4 ≠ g ∧ m4 ≠ b2 ∧ m4 ≠ g2 ∧ w.heap.size ≤ m4) := by have h5 := (unhide M1).lt; have h6 := (unhide CG).dv.lt; have h7 := (unhide CB).lt; have h8 := (unhide CG).k.size; exact ⟨by omega, by omega, by omega, by omega, by omega, by omega⟩
                         replace CG := hide ((unhide CG).step K4)
                         replace CB := hide ((unhide CB).kept K4 (by simp) (by simp))
                         replace M1 := hide ((unhide M1).kept K4 (by simp))
                         have M2 := hide B4
                         replace HR : Hid (X4.rangeAt h (off + k * 64) (u8s s)) := fun j u hj => K4.cell (unhide HR j u hj) (by simp)
                         clear e4 B4 K4
                         refine Stp.go ?_))
                    constructor
                    go_wp2_with (
                      first
                      | (refine wpLoadA row38 (by rfl) (.tmp 183) (by rfl) h (off + k * 64) (by kernel_rfl) (u8s s) (sec_u8 (unhide HSs)) (unhide HR) ?_
                         refine Stp.go ?_))
                    constructor
                    go_wp2_with (
                      first
                      | (refine wpStoreW row38 (by rfl) (.tmp 22) (.tmp 184) (by rfl) (by rfl) m4 (u8s t) (u8s s) (by kernel_rfl) (by kernel_rfl) (sec_u8 (unhide HSs)) (u8s_one _) (unhide M2) (sec_u8 (unhide HSt)) ?_
                         intro X5 B5 K5
                         replace M1 := hide ((unhide M1).kept K5 (by have := unhide HP; simp; omega))
                         replace CB := hide ((unhide CB).kept K5 (by have := unhide HP; simp; omega) (by have := unhide HP; simp; omega))
                         replace CG : Hid (Cg w X5 b g Dx) := ⟨(unhide CG).dv.kept K5 (by have := unhide HP; simp; omega) (by have := unhide HP; simp; omega), (unhide CG).k.fresh K5 (fun i hi hl => by have := unhide HP; simp at hi; omega), (unhide CG).ge⟩
                         replace M2 := hide B5
                         clear B5 K5
                         refine Stp.go ?_))
                    constructor
                    go_wp2_with (
                      first
                      | (refine wpLoadA row38 (by rfl) (.tmp 20) (by rfl) m2 0 (by kernel_rfl) (u8s s) (sec_u8 (unhide HSs)) (unhide M1).range ?_
                         refine Stp.go ?_))
                    constructor
                    go_wp2_with (
                      first
                      | (refine wpLoadA row38 (by rfl) (.tmp 22) (by rfl) m4 0 (by kernel_rfl) (u8s s) (sec_u8 (unhide HSs)) (unhide M2).range ?_
                         refine Stp.go ?_))
                    constructor
                    go_wp2_with (
                      first
                      | (refine wpNeqSS (by rfl) (.tmp 185) (.tmp 186) (by rfl) s (unhide HSs) (by kernel_rfl) (by kernel_rfl) ?_))
                    go_roundw
                    case rel => exact ⟨k + 1, by omega, by go_num, CG, CB⟩
                    case measure => simp [intOf]; omega
                  · obtain rfl := (hout hc).symm
                    clear hin hout
                    by_cases hc1 : k < ln
                    · have hc2 : n ≤ (k : Int) := by omega
                      clear hc
                      exfalso
                      omega
                    · clear hc
                      go_wp2_with (
                        first
                        | (go_at_call 26
                           refine (unhide P26 _ (unhide CG).dv).mono ?_
                           rintro e X1 ⟨rfl, K1⟩
                           replace CG := hide ((unhide CG).step K1)
                           replace CB := hide ((unhide CB).kept K1 (by simp) (by simp))
                           clear K1
                           refine Stp.go ?_))
                      constructor
                      go_wp2_with (
                        first
                        | (refine wpNew row38 (u8s nought) (sec_u8 nought_sec) zero38 20 (by rfl) (by rfl) (by rfl) (.tmp 164) (by rfl) (by rfl) (by rfl) (u8s s) (sec_u8 (unhide HSs)) (u8s_one _) (by kernel_rfl) (by kernel_rfl) ?_
                           intro X2 m2 e2 B2 K2
                           replace CG := hide ((unhide CG).step K2)
                           replace CB := hide ((unhide CB).kept K2 (by simp) (by simp))
                           have M1 := hide B2
                           clear e2 B2 K2
                           refine Stp.go ?_))
                      constructor
                      go_wp2_with (
                        first
                        | (go_at_call 26
                           refine (unhide P26' _ (unhide CB)).mono ?_
                           rintro e X3 ⟨rfl, K3⟩
                           replace CG := hide ((unhide CG).step K3)
                           replace CB := hide ((unhide CB).kept K3 (by simp) (by simp))
                           replace M1 := hide ((unhide M1).kept K3 (by simp))
                           clear K3
                           refine Stp.go ?_))
                      constructor
                      go_wp2_with (
                        first
                        | (refine wpNew row38 (u8s nought) (sec_u8 nought_sec) zero38 22 (by rfl) (by rfl) (by rfl) (.tmp 170) (by rfl) (by rfl) (by rfl) (u8s s) (sec_u8 (unhide HSt)) (u8s_one _) (by kernel_rfl) (by kernel_rfl) ?_
                           intro X4 m4 e4 B4 K4
                           have HP : Hid (m2 ≠ m4 ∧ m4 ≠ b ∧ m4 ≠ g ∧ m4 ≠ b2 ∧ m4 ≠ g2 ∧ w.heap.size ≤ m4) := by have h5 := (unhide M1).lt; have h6 := (unhide CG).dv.lt; have h7 := (unhide CB).lt; have h8 := (unhide CG).k.size; exact ⟨by omega, by omega, by omega, by omega, by omega, by omega⟩
                           replace CG := hide ((unhide CG).step K4)
                           replace CB := hide ((unhide CB).kept K4 (by simp) (by simp))
                           replace M1 := hide ((unhide M1).kept K4 (by simp))
                           have M2 := hide B4
                           clear e4 B4 K4
                           refine Stp.go ?_))
                      constructor
                      go_wp2_with (
                        first
                        | (refine wpLoadA row38 (by rfl) (.tmp 20) (by rfl) m2 0 (by kernel_rfl) (u8s s) (sec_u8 (unhide HSs)) (unhide M1).range ?_
                           refine Stp.go ?_))
                      constructor
                      go_wp2_with (
                        first
                        | (refine wpLoadA row38 (by rfl) (.tmp 22) (by rfl) m4 0 (by kernel_rfl) (u8s s) (sec_u8 (unhide HSs)) (unhide M2).range ?_
                           refine Stp.go ?_))
                      constructor
                      go_wp2_with (
                        first
                        | (refine wpNeqSS (by rfl) (.tmp 185) (.tmp 186) (by rfl) s (unhide HSs) (by kernel_rfl) (by kernel_rfl) ?_))
                      go_roundw
                      case rel => exact ⟨k + 1, by omega, by go_num, CG, CB⟩
                      case measure => simp [intOf]; omega
                · go_wp2_with fail
                  go_ret
                  exact ⟨rfl, (unhide CG).k⟩
            · have P20 : Hid (∀ W, Dv W b g Dw → Calls Try.prog 20 #[P0 b] W fun e w' => e = .returned (.bool false) ∧ Dv w' b g Dw.uncut ∧ Kept [b, g] W w') := fun W h => by have := whole20 b g Dw W h; rw [hlost, decide_eq_true (by omega)] at this; exact this
              clear hlost
              go_wp2_with (
                first
                | (go_at_call 25
                   refine (unhide P25 _ (unhide CG).dv).mono ?_
                   rintro e U9 ⟨rfl, d7, k7⟩
                   replace CG := hide ((unhide CG).mut d7 k7)
                   replace CB := hide ((unhide CB).kept k7 (by have := unhide HB2; simp; omega) (by have := unhide HB2; simp; omega))
                   clear d7 k7 P25
                   refine Stp.go ?_))
              constructor
              go_wp2_with (
                first
                | (go_at_call 10; refine (num10 _ _).mono ?_; rintro e w' ⟨rfl, hww⟩; obtain rfl := hww.symm; clear hww
                   refine Stp.go ?_))
              constructor
              go_wp2_with (
                first
                | (go_at_call 22
                   refine (unhide P22' _ (unhide CG).k (unhide CG).ge (unhide CG).dv).mono ?_
                   rintro e U10 ⟨rfl, d7, k7⟩
                   replace CG := hide ((unhide CG).mut d7 k7)
                   replace CB := hide ((unhide CB).kept k7 (by have := unhide HB2; simp; omega) (by have := unhide HB2; simp; omega))
                   clear d7 k7 P22'
                   refine Stp.go ?_))
              constructor
              go_wp2_with (
                first
                | (go_at_call 10; refine (num10 _ _).mono ?_; rintro e w' ⟨rfl, hww⟩; obtain rfl := hww.symm; clear hww
                   refine Stp.go ?_))
              constructor
              go_wp2_with (
                first
                | (go_at_call 20
                   refine (unhide P20 _ (unhide CG).dv).mono ?_
                   rintro e U11 ⟨rfl, d7, k7⟩
                   replace CG := hide ((unhide CG).mut d7 k7)
                   replace CB := hide ((unhide CB).kept k7 (by have := unhide HB2; simp; omega) (by have := unhide HB2; simp; omega))
                   clear d7 k7 P20))
              obtain ⟨Dx, hDx⟩ : ∃ Dx, Dw.uncut = Dx := ⟨_, rfl⟩
              have HRX : Hid (∀ k : Nat, k < 40 → ∃ s t, Dx.read k = (s, 0) ∧ D1.read k = (t, 0) ∧ Sec s ∧ Sec t ∧ (k < ln ∧ (k : Int) < n → L[k]? = some s) ∧ (¬(k < ln ∧ (k : Int) < n) → t = s)) := fun k hk => by
                rw [← hDx]
                exact cut_reads (unhide HL).len (unhide CG).dv.ok.sec (unhide CB).ok.sec (unhide HSW) (unhide HS1) (unhide HRD) k hk
              rw [hDx] at CG
              clear hDx HRD HSW HS1 HN1 HNW
              go_loopw [19] (fun i wv => ∃ k : Nat, k ≤ 40 ∧ i = .int .i64 k ∧ Hid (Cg w wv b g Dx) ∧ Hid (Dv wv b2 g2 D1)) (fun i _ => 40 - (intOf i).toNat)
              case atStart => exact ⟨0, by omega, rfl, CG, CB⟩
              case round =>
                clear CG CB
                obtain ⟨k, hk, rfl, CG, CB⟩ := hrel
                by_cases hk4 : k < 40
                · obtain ⟨s, t, hr1, hr2, hs, ht, hin, hout⟩ := unhide HRX k hk4
                  have P26 : Hid (∀ W, Dv W b g Dx → Calls Try.prog 26 #[P0 b, .int .i64 k] W fun e w' => e = .returned (.tuple #[secV s, .int .i64 0]) ∧ Kept [] W w') := fun W h => by have := read26 b g Dx k W h (by omega); rw [hr1] at this; exact this
                  have P26' : Hid (∀ W, Dv W b2 g2 D1 → Calls Try.prog 26 #[P0 b2, .int .i64 k] W fun e w' => e = .returned (.tuple #[secV t, .int .i64 0]) ∧ Kept [] W w') := fun W h => by have := read26 b2 g2 D1 k W h (by omega); rw [hr2] at this; exact this
                  have HSs := hide hs
                  have HSt := hide ht
                  clear hr1 hr2 hs ht
                  by_cases hc : k < ln ∧ (k : Int) < n
                  · have hgs := hin hc
                    obtain ⟨hc1, hc2⟩ := hc
                    have hL3 := (unhide HL).kept (unhide CG).k (X := []) (fun _ _ _ => by simp)
                    obtain ⟨h, off, rfl, hg⟩ := hL3.lies (by intro e; rw [e] at hgs; simp at hgs)
                    have hrk := hg k (by rw [hL3.len]; exact hc1)
                    have hgs2 : L[k]'(by rw [hL3.len]; exact hc1) = s := by have := List.getElem?_eq_getElem (l := L) (i := k) (by rw [hL3.len]; exact hc1); rw [this] at hgs; simpa using hgs
                    rw [hgs2] at hrk
                    have HH : Hid (h < w.heap.size) := unhide HO (by intro e; rw [e] at hgs; simp at hgs) h off rfl
                    have HR : Hid (wr.rangeAt h (off + k * 64) (u8s s)) := hrk
                    clear hrk hg hgs hgs2 hL3 hin hout
                    go_wp2_with (
                      first
                      | (go_at_call 26
                         refine (unhide P26 _ (unhide CG).dv).mono ?_
                         rintro e X1 ⟨rfl, K1⟩
                         replace CG := hide ((unhide CG).step K1)
                         replace CB := hide ((unhide CB).kept K1 (by simp) (by simp))
                         replace HR : Hid (X1.rangeAt h (off + k * 64) (u8s s)) := fun j u hj => K1.cell (unhide HR j u hj) (by simp)
                         clear K1
                         refine Stp.go ?_))
                    constructor
                    go_wp2_with (
                      first
                      | (refine wpNew row38 (u8s nought) (sec_u8 nought_sec) zero38 20 (by rfl) (by rfl) (by rfl) (.tmp 164) (by rfl) (by rfl) (by rfl) (u8s s) (sec_u8 (unhide HSs)) (u8s_one _) (by kernel_rfl) (by kernel_rfl) ?_
                         intro X2 m2 e2 B2 K2
                         replace CG := hide ((unhide CG).step K2)
                         replace CB := hide ((unhide CB).kept K2 (by simp) (by simp))
                         have M1 := hide B2
                         replace HR : Hid (X2.rangeAt h (off + k * 64) (u8s s)) := fun j u hj => K2.cell (unhide HR j u hj) (by simp)
                         clear e2 B2 K2
                         refine Stp.go ?_))
                    constructor
                    go_wp2_with (
                      first
                      | (go_at_call 26
                         refine (unhide P26' _ (unhide CB)).mono ?_
                         rintro e X3 ⟨rfl, K3⟩
                         replace CG := hide ((unhide CG).step K3)
                         replace CB := hide ((unhide CB).kept K3 (by simp) (by simp))
                         replace M1 := hide ((unhide M1).kept K3 (by simp))
                         replace HR : Hid (X3.rangeAt h (off + k * 64) (u8s s)) := fun j u hj => K3.cell (unhide HR j u hj) (by simp)
                         clear K3
                         refine Stp.go ?_))
                    constructor
                    go_wp2_with (
                      first
                      | (refine wpNew row38 (u8s nought) (sec_u8 nought_sec) zero38 22 (by rfl) (by rfl) (by rfl) (.tmp 170) (by rfl) (by rfl) (by rfl) (u8s t) (sec_u8 (unhide HSt)) (u8s_one _) (by kernel_rfl) (by kernel_rfl) ?_
                         intro X4 m4 e4 B4 K4
                         have HP : Hid (m2 ≠ m4 ∧ m4 ≠ b ∧ m4 ≠ g ∧ m4 ≠ b2 ∧ m4 ≠ g2 ∧ w.heap.size ≤ m4) := by have h5 := (unhide M1).lt; have h6 := (unhide CG).dv.lt; have h7 := (unhide CB).lt; have h8 := (unhide CG).k.size; exact ⟨by omega, by omega, by omega, by omega, by omega, by omega⟩
                         replace CG := hide ((unhide CG).step K4)
                         replace CB := hide ((unhide CB).kept K4 (by simp) (by simp))
                         replace M1 := hide ((unhide M1).kept K4 (by simp))
                         have M2 := hide B4
                         replace HR : Hid (X4.rangeAt h (off + k * 64) (u8s s)) := fun j u hj => K4.cell (unhide HR j u hj) (by simp)
                         clear e4 B4 K4
                         refine Stp.go ?_))
                    constructor
                    go_wp2_with (
                      first
                      | (refine wpLoadA row38 (by rfl) (.tmp 183) (by rfl) h (off + k * 64) (by kernel_rfl) (u8s s) (sec_u8 (unhide HSs)) (unhide HR) ?_
                         refine Stp.go ?_))
                    constructor
                    go_wp2_with (
                      first
                      | (refine wpStoreW row38 (by rfl) (.tmp 22) (.tmp 184) (by rfl) (by rfl) m4 (u8s t) (u8s s) (by kernel_rfl) (by kernel_rfl) (sec_u8 (unhide HSs)) (u8s_one _) (unhide M2) (sec_u8 (unhide HSt)) ?_
                         intro X5 B5 K5
                         replace M1 := hide ((unhide M1).kept K5 (by have := unhide HP; simp; omega))
                         replace CB := hide ((unhide CB).kept K5 (by have := unhide HP; simp; omega) (by have := unhide HP; simp; omega))
                         replace CG : Hid (Cg w X5 b g Dx) := ⟨(unhide CG).dv.kept K5 (by have := unhide HP; simp; omega) (by have := unhide HP; simp; omega), (unhide CG).k.fresh K5 (fun i hi hl => by have := unhide HP; simp at hi; omega), (unhide CG).ge⟩
                         replace M2 := hide B5
                         clear B5 K5
                         refine Stp.go ?_))
                    constructor
                    go_wp2_with (
                      first
                      | (refine wpLoadA row38 (by rfl) (.tmp 20) (by rfl) m2 0 (by kernel_rfl) (u8s s) (sec_u8 (unhide HSs)) (unhide M1).range ?_
                         refine Stp.go ?_))
                    constructor
                    go_wp2_with (
                      first
                      | (refine wpLoadA row38 (by rfl) (.tmp 22) (by rfl) m4 0 (by kernel_rfl) (u8s s) (sec_u8 (unhide HSs)) (unhide M2).range ?_
                         refine Stp.go ?_))
                    constructor
                    go_wp2_with (
                      first
                      | (refine wpNeqSS (by rfl) (.tmp 185) (.tmp 186) (by rfl) s (unhide HSs) (by kernel_rfl) (by kernel_rfl) ?_))
                    go_roundw
                    case rel => exact ⟨k + 1, by omega, by go_num, CG, CB⟩
                    case measure => simp [intOf]; omega
                  · obtain rfl := (hout hc).symm
                    clear hin hout
                    by_cases hc1 : k < ln
                    · have hc2 : n ≤ (k : Int) := by omega
                      clear hc
                      go_wp2_with (
                        first
                        | (go_at_call 26
                           refine (unhide P26 _ (unhide CG).dv).mono ?_
                           rintro e X1 ⟨rfl, K1⟩
                           replace CG := hide ((unhide CG).step K1)
                           replace CB := hide ((unhide CB).kept K1 (by simp) (by simp))
                           clear K1
                           refine Stp.go ?_))
                      constructor
                      go_wp2_with (
                        first
                        | (refine wpNew row38 (u8s nought) (sec_u8 nought_sec) zero38 20 (by rfl) (by rfl) (by rfl) (.tmp 164) (by rfl) (by rfl) (by rfl) (u8s s) (sec_u8 (unhide HSs)) (u8s_one _) (by kernel_rfl) (by kernel_rfl) ?_
                           intro X2 m2 e2 B2 K2
                           replace CG := hide ((unhide CG).step K2)
                           replace CB := hide ((unhide CB).kept K2 (by simp) (by simp))
                           have M1 := hide B2
                           clear e2 B2 K2
                           refine Stp.go ?_))
                      constructor
                      go_wp2_with (
                        first
                        | (go_at_call 26
                           refine (unhide P26' _ (unhide CB)).mono ?_
                           rintro e X3 ⟨rfl, K3⟩
                           replace CG := hide ((unhide CG).step K3)
                           replace CB := hide ((unhide CB).kept K3 (by simp) (by simp))
                           replace M1 := hide ((unhide M1).kept K3 (by simp))
                           clear K3
                           refine Stp.go ?_))
                      constructor
                      go_wp2_with (
                        first
                        | (refine wpNew row38 (u8s nought) (sec_u8 nought_sec) zero38 22 (by rfl) (by rfl) (by rfl) (.tmp 170) (by rfl) (by rfl) (by rfl) (u8s s) (sec_u8 (unhide HSt)) (u8s_one _) (by kernel_rfl) (by kernel_rfl) ?_
                           intro X4 m4 e4 B4 K4
                           have HP : Hid (m2 ≠ m4 ∧ m4 ≠ b ∧ m4 ≠ g ∧ m4 ≠ b2 ∧ m4 ≠ g2 ∧ w.heap.size ≤ m4) := by have h5 := (unhide M1).lt; have h6 := (unhide CG).dv.lt; have h7 := (unhide CB).lt; have h8 := (unhide CG).k.size; exact ⟨by omega, by omega, by omega, by omega, by omega, by omega⟩
                           replace CG := hide ((unhide CG).step K4)
                           replace CB := hide ((unhide CB).kept K4 (by simp) (by simp))
                           replace M1 := hide ((unhide M1).kept K4 (by simp))
                           have M2 := hide B4
                           clear e4 B4 K4
                           refine Stp.go ?_))
                      constructor
                      go_wp2_with (
                        first
                        | (refine wpLoadA row38 (by rfl) (.tmp 20) (by rfl) m2 0 (by kernel_rfl) (u8s s) (sec_u8 (unhide HSs)) (unhide M1).range ?_
                           refine Stp.go ?_))
                      constructor
                      go_wp2_with (
                        first
                        | (refine wpLoadA row38 (by rfl) (.tmp 22) (by rfl) m4 0 (by kernel_rfl) (u8s s) (sec_u8 (unhide HSs)) (unhide M2).range ?_
                           refine Stp.go ?_))
                      constructor
                      go_wp2_with (
                        first
                        | (refine wpNeqSS (by rfl) (.tmp 185) (.tmp 186) (by rfl) s (unhide HSs) (by kernel_rfl) (by kernel_rfl) ?_))
                      go_roundw
                      case rel => exact ⟨k + 1, by omega, by go_num, CG, CB⟩
                      case measure => simp [intOf]; omega
                    · clear hc
                      go_wp2_with (
                        first
                        | (go_at_call 26
                           refine (unhide P26 _ (unhide CG).dv).mono ?_
                           rintro e X1 ⟨rfl, K1⟩
                           replace CG := hide ((unhide CG).step K1)
                           replace CB := hide ((unhide CB).kept K1 (by simp) (by simp))
                           clear K1
                           refine Stp.go ?_))
                      constructor
                      go_wp2_with (
                        first
                        | (refine wpNew row38 (u8s nought) (sec_u8 nought_sec) zero38 20 (by rfl) (by rfl) (by rfl) (.tmp 164) (by rfl) (by rfl) (by rfl) (u8s s) (sec_u8 (unhide HSs)) (u8s_one _) (by kernel_rfl) (by kernel_rfl) ?_
                           intro X2 m2 e2 B2 K2
                           replace CG := hide ((unhide CG).step K2)
                           replace CB := hide ((unhide CB).kept K2 (by simp) (by simp))
                           have M1 := hide B2
                           clear e2 B2 K2
                           refine Stp.go ?_))
                      constructor
                      go_wp2_with (
                        first
                        | (go_at_call 26
                           refine (unhide P26' _ (unhide CB)).mono ?_
                           rintro e X3 ⟨rfl, K3⟩
                           replace CG := hide ((unhide CG).step K3)
                           replace CB := hide ((unhide CB).kept K3 (by simp) (by simp))
                           replace M1 := hide ((unhide M1).kept K3 (by simp))
                           clear K3
                           refine Stp.go ?_))
                      constructor
                      go_wp2_with (
                        first
                        | (refine wpNew row38 (u8s nought) (sec_u8 nought_sec) zero38 22 (by rfl) (by rfl) (by rfl) (.tmp 170) (by rfl) (by rfl) (by rfl) (u8s s) (sec_u8 (unhide HSt)) (u8s_one _) (by kernel_rfl) (by kernel_rfl) ?_
                           intro X4 m4 e4 B4 K4
                           have HP : Hid (m2 ≠ m4 ∧ m4 ≠ b ∧ m4 ≠ g ∧ m4 ≠ b2 ∧ m4 ≠ g2 ∧ w.heap.size ≤ m4) := by have h5 := (unhide M1).lt; have h6 := (unhide CG).dv.lt; have h7 := (unhide CB).lt; have h8 := (unhide CG).k.size; exact ⟨by omega, by omega, by omega, by omega, by omega, by omega⟩
                           replace CG := hide ((unhide CG).step K4)
                           replace CB := hide ((unhide CB).kept K4 (by simp) (by simp))
                           replace M1 := hide ((unhide M1).kept K4 (by simp))
                           have M2 := hide B4
                           clear e4 B4 K4
                           refine Stp.go ?_))
                      constructor
                      go_wp2_with (
                        first
                        | (refine wpLoadA row38 (by rfl) (.tmp 20) (by rfl) m2 0 (by kernel_rfl) (u8s s) (sec_u8 (unhide HSs)) (unhide M1).range ?_
                           refine Stp.go ?_))
                      constructor
                      go_wp2_with (
                        first
                        | (refine wpLoadA row38 (by rfl) (.tmp 22) (by rfl) m4 0 (by kernel_rfl) (u8s s) (sec_u8 (unhide HSs)) (unhide M2).range ?_
                           refine Stp.go ?_))
                      constructor
                      go_wp2_with (
                        first
                        | (refine wpNeqSS (by rfl) (.tmp 185) (.tmp 186) (by rfl) s (unhide HSs) (by kernel_rfl) (by kernel_rfl) ?_))
                      go_roundw
                      case rel => exact ⟨k + 1, by omega, by go_num, CG, CB⟩
                      case measure => simp [intOf]; omega
                · go_wp2_with fail
                  go_ret
                  exact ⟨rfl, (unhide CG).k⟩
      · go_wp2_with fail
        obtain ⟨D1, hD1⟩ : ∃ D1, D.uncut = D1 := ⟨_, rfl⟩
        have hN1 : D1.N = 2 := by rw [← hD1]; exact hDN
        have hS1 : D1.S.length = 40 := by rw [← hD1]; exact hDS
        have hs1 : D1.set = false := by rw [← hD1]; rfl
        have hok1 : ∀ x, D1.ep x = D.ep x := fun x => by rw [← hD1]; rfl
        have hep : D.epoch 0 = (D.ep 0, 0) := by unfold Dev.epoch; rw [if_pos (by rw [hDN]; simp [hasN])]
        have hep1 : D1.epoch 0 = (D1.ep 0, 0) := by unfold Dev.epoch; rw [if_pos (by rw [hN1]; simp [hasN])]
        have hbd := epoch_bd (unhide SG).dv.ok 0
        rw [hep, ← hok1] at hbd
        have P20 : Hid (∀ W, Dv W b g D → Calls Try.prog 20 #[P0 b] W fun e w' => e = .returned (.bool (!D.lost)) ∧ Dv w' b g D1 ∧ Kept [b, g] W w') := fun W h => by have := whole20 b g D W h; rw [hD1] at this; exact this
        have HF := hide (fun h => fenced_write hN1 hS1 h [fullS 1] (by simp))
        have HG := hide (fun h => fenced_fence hN1 h)
        have HCW := hide (cut_write hN1 hS1 hbd.1 hs1 n (by omega) L)
        obtain ⟨nw, hnw⟩ : ∃ nw, D1.ep 0 = nw := ⟨_, rfl⟩
        rw [hnw] at hbd hep1
        have P19 : Hid (∀ W, Dv W b g D1 → Calls Try.prog 19 #[P0 b, .int .i64 0] W fun e w' => e = .returned (.tuple #[.int .i64 nw, .int .i64 0]) ∧ w' = W) := fun W h => by have := epoch19 b g D1 0 W h; rw [hep1] at this; exact this
        have HNW := hide hnw
        have HN1 := hide hN1
        have HS1 := hide hS1
        simp only at hbd
        clear hok1 hep hep1 hDN hDS hD1 hs1 hN1 hS1 hnw
        go_wp2_with (
          first
          | (go_at_call 20
             refine (unhide P20 _ (unhide SG).dv).mono ?_
             rintro e U1 ⟨rfl, d7, k7⟩
             have CG : Hid (Cg w U1 b g D1) := ⟨d7, (unhide SG).k.fresh k7 (fun i hi hl => by have := (unhide SG).ap.ge; simp at hi; omega), ⟨(unhide SG).ap.ge.1, (unhide SG).ap.ge.2.1⟩⟩
             clear d7 k7 SG P20
             refine Stp.go ?_))
        constructor
        go_wp2_with (
          first
          | (go_at_call 19
             refine (unhide P19 _ (unhide CG).dv).mono ?_
             rintro e U2 ⟨rfl, hw9⟩
             obtain rfl := hw9.symm
             clear P19
             refine Stp.go ?_))
        constructor
        go_wp2_with (
          first
          | (go_at_call 21
             refine (copy21 b g D1 _ (unhide CG).dv).mono ?_
             rintro e U3 ⟨b2, g2, rfl, hb1, hg1, d2, k2⟩
             have CB : Hid (Cg w U3 b2 g2 D1) := ⟨d2, (unhide CG).k.trans k2, by have := (unhide CG).k.size; exact ⟨by omega, by omega⟩⟩
             have HB2 : Hid (b2 ≠ b ∧ b2 ≠ g ∧ g2 ≠ b ∧ g2 ≠ g) := by have := (unhide CG).dv.lt; exact ⟨by omega, by omega, by omega, by omega⟩
             replace CG := hide ((unhide CG).step k2)
             clear hb1 hg1 d2 k2
             refine Stp.go ?_))
        constructor
        replace CB : Hid (Dv U3 b2 g2 D1) := (unhide CB).dv
        have P17 : Hid (∀ W, Dv W b g D1 → Dv W b2 g2 D1 → Calls Try.prog 17 #[P0 b, P0 b2] W fun e w' => e = .returned (.bool true) ∧ Kept [] W w') := fun W h h2 => by have := same17 b g b2 g2 D1 D1 W h h2; rw [same_self] at this; exact this
        by_cases hpos : 0 < nw
        · have P22 : Hid (∀ (W : World) (p4 : Nat), Dv W b g D1 → Secs W (some ⟨p4, 0, none⟩) 1 1 [fullS 1] → p4 ≠ b ∧ p4 ≠ g → Calls Try.prog 22 #[P0 b, .int .i64 0, .int .i64 (nw - 1), .int .i64 0, .slice (some ⟨p4, 0, none⟩) 1 1] W fun e w' => e = .returned (.int .i64 8) ∧ Dv w' b g D1 ∧ Kept [b, g] W w') := fun W p4 h hs hp => by
            have := write22 b g D1 0 (nw - 1) 0 (some ⟨p4, 0, none⟩) 1 1 [fullS 1] W h (by omega) (by omega) hs (fun h off e => by cases e; simp; omega)
            have h2 := unhide HF (by rw [unhide HNW]; exact hpos)
            rw [unhide HNW] at h2
            rw [h2] at this
            exact this
          have P24 : Hid (∀ W : World, Dv W b g D1 → Calls Try.prog 24 #[P0 b, .int .i64 0, .int .i64 (nw - 1), .int .i64 1, .int .i64 9] W fun e w' => e = .returned (.int .i64 8) ∧ Dv w' b g D1 ∧ Kept [b, g] W w') := fun W h => by
            have := fence24 b g D1 0 (nw - 1) 1 9 W h
            have h2 := unhide HG (by rw [unhide HNW]; exact hpos)
            rw [unhide HNW] at h2
            rw [h2] at this
            exact this
          go_wp2_with (
            first
            | (go_at_call 23
               refine (full23 1 _ (by omega)).mono ?_
               rintro e U4 ⟨rfl, k4⟩
               replace CG := hide ((unhide CG).step k4)
               replace CB := hide ((unhide CB).kept k4 (by simp) (by simp))
               clear k4
               refine Stp.go ?_))
          constructor
          go_wp2_with (
            first
            | (refine wpSec1G (by kernel_rfl) (.tmp 110) (by rfl) (fullS 1) (fullS_sec (by omega)) (by kernel_rfl) ?_
               intro U5 p4 e4 B4 K4
               have NP : Hid (p4 ≠ b ∧ p4 ≠ g) := by have := (unhide CG).dv.lt; exact ⟨by omega, by omega⟩
               have V4 := hide (blk_secs (fullS_sec (by omega)) B4)
               replace CG := hide ((unhide CG).step K4)
               replace CB := hide ((unhide CB).kept K4 (by simp) (by simp))
               clear e4 B4 K4
               refine Stp.go ?_))
          constructor
          go_wp2_with (
            first
            | (go_at_call 22
               refine (unhide P22 _ _ (unhide CG).dv (unhide V4) (unhide NP)).mono ?_
               rintro e U6 ⟨rfl, d6, k6⟩
               replace CG := hide ((unhide CG).mut d6 k6)
               replace CB := hide ((unhide CB).kept k6 (by have := unhide HB2; simp; omega) (by have := unhide HB2; simp; omega))
               clear d6 k6 V4 NP
               refine Stp.go ?_))
          constructor
          go_wp2_with (
            first
            | (go_at_call 10; refine (num10 _ _).mono ?_; rintro e w' ⟨rfl, hww⟩; obtain rfl := hww.symm; clear hww
               refine Stp.go ?_))
          constructor
          go_wp2_with (
            first
            | (go_at_call 24
               refine (unhide P24 _ (unhide CG).dv).mono ?_
               rintro e U7 ⟨rfl, d7, k7⟩
               replace CG := hide ((unhide CG).mut d7 k7)
               replace CB := hide ((unhide CB).kept k7 (by have := unhide HB2; simp; omega) (by have := unhide HB2; simp; omega))
               clear d7 k7
               refine Stp.go ?_))
          constructor
          go_wp2_with (
            first
            | (go_at_call 10; refine (num10 _ _).mono ?_; rintro e w' ⟨rfl, hww⟩; obtain rfl := hww.symm; clear hww
               refine Stp.go ?_))
          constructor
          go_wp2_with (
            first
            | (go_at_call 17
               refine (unhide P17 _ (unhide CG).dv (unhide CB)).mono ?_
               rintro e U8 ⟨rfl, k8⟩
               replace CG := hide ((unhide CG).step k8)
               replace CB := hide ((unhide CB).kept k8 (by simp) (by simp))
               clear k8))
          obtain ⟨Dc, Dw, hc1, hc2, hlost, hSw, hrd⟩ := unhide HCW (by rw [(unhide HL).len]; omega)
          rw [(unhide HL).len] at hlost
          rw [unhide HNW] at hc2
          have P25 : Hid (∀ W, Dv W b g D1 → Calls Try.prog 25 #[P0 b, .int .i64 n] W fun e w' => e = .returned (.int .i64 0) ∧ Dv w' b g Dc ∧ Kept [b, g] W w') := fun W h => by have := cut25 b g D1 n W h hn; rw [hc1] at this; exact this
          have P22' : Hid (∀ W, Kept [] w W → (w.heap.size ≤ b ∧ w.heap.size ≤ g) → Dv W b g Dc → Calls Try.prog 22 #[P0 b, .int .i64 0, .int .i64 nw, .int .i64 0, .slice lo ln lc] W fun e w' => e = .returned (.int .i64 0) ∧ Dv w' b g Dw ∧ Kept [b, g] W w') := fun W hk hge h => by
            have := write22E b g Dc 0 nw 0 lo ln lc L W h (by omega) (by omega) ((unhide HL).kept hk (fun _ _ _ => by simp)) (fun hne h off e hm => by have := unhide HO hne h off e; simp at hm; omega)
            rw [hc2] at this
            exact this
          have HRD := hide hrd
          have HSW := hide hSw
          clear hc1 hc2 hrd hSw HCW
          by_cases hle : (ln : Int) ≤ n
          · have P20 : Hid (∀ W, Dv W b g Dw → Calls Try.prog 20 #[P0 b] W fun e w' => e = .returned (.bool true) ∧ Dv w' b g Dw.uncut ∧ Kept [b, g] W w') := fun W h => by have := whole20 b g Dw W h; rw [hlost, decide_eq_false (by omega)] at this; exact this
            clear hlost
            go_wp2_with (
              first
              | (go_at_call 25
                 refine (unhide P25 _ (unhide CG).dv).mono ?_
                 rintro e U9 ⟨rfl, d7, k7⟩
                 replace CG := hide ((unhide CG).mut d7 k7)
                 replace CB := hide ((unhide CB).kept k7 (by have := unhide HB2; simp; omega) (by have := unhide HB2; simp; omega))
                 clear d7 k7 P25
                 refine Stp.go ?_))
            constructor
            go_wp2_with (
              first
              | (go_at_call 10; refine (num10 _ _).mono ?_; rintro e w' ⟨rfl, hww⟩; obtain rfl := hww.symm; clear hww
                 refine Stp.go ?_))
            constructor
            go_wp2_with (
              first
              | (go_at_call 22
                 refine (unhide P22' _ (unhide CG).k (unhide CG).ge (unhide CG).dv).mono ?_
                 rintro e U10 ⟨rfl, d7, k7⟩
                 replace CG := hide ((unhide CG).mut d7 k7)
                 replace CB := hide ((unhide CB).kept k7 (by have := unhide HB2; simp; omega) (by have := unhide HB2; simp; omega))
                 clear d7 k7 P22'
                 refine Stp.go ?_))
            constructor
            go_wp2_with (
              first
              | (go_at_call 10; refine (num10 _ _).mono ?_; rintro e w' ⟨rfl, hww⟩; obtain rfl := hww.symm; clear hww
                 refine Stp.go ?_))
            constructor
            go_wp2_with (
              first
              | (go_at_call 20
                 refine (unhide P20 _ (unhide CG).dv).mono ?_
                 rintro e U11 ⟨rfl, d7, k7⟩
                 replace CG := hide ((unhide CG).mut d7 k7)
                 replace CB := hide ((unhide CB).kept k7 (by have := unhide HB2; simp; omega) (by have := unhide HB2; simp; omega))
                 clear d7 k7 P20))
            obtain ⟨Dx, hDx⟩ : ∃ Dx, Dw.uncut = Dx := ⟨_, rfl⟩
            have HRX : Hid (∀ k : Nat, k < 40 → ∃ s t, Dx.read k = (s, 0) ∧ D1.read k = (t, 0) ∧ Sec s ∧ Sec t ∧ (k < ln ∧ (k : Int) < n → L[k]? = some s) ∧ (¬(k < ln ∧ (k : Int) < n) → t = s)) := fun k hk => by
              rw [← hDx]
              exact cut_reads (unhide HL).len (unhide CG).dv.ok.sec (unhide CB).ok.sec (unhide HSW) (unhide HS1) (unhide HRD) k hk
            rw [hDx] at CG
            clear hDx HRD HSW HS1 HN1 HNW
            go_loopw [19] (fun i wv => ∃ k : Nat, k ≤ 40 ∧ i = .int .i64 k ∧ Hid (Cg w wv b g Dx) ∧ Hid (Dv wv b2 g2 D1)) (fun i _ => 40 - (intOf i).toNat)
            case atStart => exact ⟨0, by omega, rfl, CG, CB⟩
            case round =>
              clear CG CB
              obtain ⟨k, hk, rfl, CG, CB⟩ := hrel
              by_cases hk4 : k < 40
              · obtain ⟨s, t, hr1, hr2, hs, ht, hin, hout⟩ := unhide HRX k hk4
                have P26 : Hid (∀ W, Dv W b g Dx → Calls Try.prog 26 #[P0 b, .int .i64 k] W fun e w' => e = .returned (.tuple #[secV s, .int .i64 0]) ∧ Kept [] W w') := fun W h => by have := read26 b g Dx k W h (by omega); rw [hr1] at this; exact this
                have P26' : Hid (∀ W, Dv W b2 g2 D1 → Calls Try.prog 26 #[P0 b2, .int .i64 k] W fun e w' => e = .returned (.tuple #[secV t, .int .i64 0]) ∧ Kept [] W w') := fun W h => by have := read26 b2 g2 D1 k W h (by omega); rw [hr2] at this; exact this
                have HSs := hide hs
                have HSt := hide ht
                clear hr1 hr2 hs ht
                by_cases hc : k < ln ∧ (k : Int) < n
                · have hgs := hin hc
                  obtain ⟨hc1, hc2⟩ := hc
                  have hL3 := (unhide HL).kept (unhide CG).k (X := []) (fun _ _ _ => by simp)
                  obtain ⟨h, off, rfl, hg⟩ := hL3.lies (by intro e; rw [e] at hgs; simp at hgs)
                  have hrk := hg k (by rw [hL3.len]; exact hc1)
                  have hgs2 : L[k]'(by rw [hL3.len]; exact hc1) = s := by have := List.getElem?_eq_getElem (l := L) (i := k) (by rw [hL3.len]; exact hc1); rw [this] at hgs; simpa using hgs
                  rw [hgs2] at hrk
                  have HH : Hid (h < w.heap.size) := unhide HO (by intro e; rw [e] at hgs; simp at hgs) h off rfl
                  have HR : Hid (wr.rangeAt h (off + k * 64) (u8s s)) := hrk
                  clear hrk hg hgs hgs2 hL3 hin hout
                  go_wp2_with (
                    first
                    | (go_at_call 26
                       refine (unhide P26 _ (unhide CG).dv).mono ?_
                       rintro e X1 ⟨rfl, K1⟩
                       replace CG := hide ((unhide CG).step K1)
                       replace CB := hide ((unhide CB).kept K1 (by simp) (by simp))
                       replace HR : Hid (X1.rangeAt h (off + k * 64) (u8s s)) := fun j u hj => K1.cell (unhide HR j u hj) (by simp)
                       clear K1
                       refine Stp.go ?_))
                  constructor
                  go_wp2_with (
                    first
                    | (refine wpNew row38 (u8s nought) (sec_u8 nought_sec) zero38 20 (by rfl) (by rfl) (by rfl) (.tmp 164) (by rfl) (by rfl) (by rfl) (u8s s) (sec_u8 (unhide HSs)) (u8s_one _) (by kernel_rfl) (by kernel_rfl) ?_
                       intro X2 m2 e2 B2 K2
                       replace CG := hide ((unhide CG).step K2)
                       replace CB := hide ((unhide CB).kept K2 (by simp) (by simp))
                       have M1 := hide B2
                       replace HR : Hid (X2.rangeAt h (off + k * 64) (u8s s)) := fun j u hj => K2.cell (unhide HR j u hj) (by simp)
                       clear e2 B2 K2
                       refine Stp.go ?_))
                  constructor
                  go_wp2_with (
                    first
                    | (go_at_call 26
                       refine (unhide P26' _ (unhide CB)).mono ?_
                       rintro e X3 ⟨rfl, K3⟩
                       replace CG := hide ((unhide CG).step K3)
                       replace CB := hide ((unhide CB).kept K3 (by simp) (by simp))
                       replace M1 := hide ((unhide M1).kept K3 (by simp))
                       replace HR : Hid (X3.rangeAt h (off + k * 64) (u8s s)) := fun j u hj => K3.cell (unhide HR j u hj) (by simp)
                       clear K3
                       refine Stp.go ?_))
                  constructor
                  go_wp2_with (
                    first
                    | (refine wpNew row38 (u8s nought) (sec_u8 nought_sec) zero38 22 (by rfl) (by rfl) (by rfl) (.tmp 170) (by rfl) (by rfl) (by rfl) (u8s t) (sec_u8 (unhide HSt)) (u8s_one _) (by kernel_rfl) (by kernel_rfl) ?_
                       intro X4 m4 e4 B4 K4
                       have HP : Hid (m2 ≠ m4 ∧ m4 ≠ b ∧ m4 ≠ g ∧ m4 ≠ b2 ∧ m4 ≠ g2 ∧ w.heap.size ≤ m4) := by have h5 := (unhide M1).lt; have h6 := (unhide CG).dv.lt; have h7 := (unhide CB).lt; have h8 := (unhide CG).k.size; exact ⟨by omega, by omega, by omega, by omega, by omega, by omega⟩
                       replace CG := hide ((unhide CG).step K4)
                       replace CB := hide ((unhide CB).kept K4 (by simp) (by simp))
                       replace M1 := hide ((unhide M1).kept K4 (by simp))
                       have M2 := hide B4
                       replace HR : Hid (X4.rangeAt h (off + k * 64) (u8s s)) := fun j u hj => K4.cell (unhide HR j u hj) (by simp)
                       clear e4 B4 K4
                       refine Stp.go ?_))
                  constructor
                  go_wp2_with (
                    first
                    | (refine wpLoadA row38 (by rfl) (.tmp 183) (by rfl) h (off + k * 64) (by kernel_rfl) (u8s s) (sec_u8 (unhide HSs)) (unhide HR) ?_
                       refine Stp.go ?_))
                  constructor
                  go_wp2_with (
                    first
                    | (refine wpStoreW row38 (by rfl) (.tmp 22) (.tmp 184) (by rfl) (by rfl) m4 (u8s t) (u8s s) (by kernel_rfl) (by kernel_rfl) (sec_u8 (unhide HSs)) (u8s_one _) (unhide M2) (sec_u8 (unhide HSt)) ?_
                       intro X5 B5 K5
                       replace M1 := hide ((unhide M1).kept K5 (by have := unhide HP; simp; omega))
                       replace CB := hide ((unhide CB).kept K5 (by have := unhide HP; simp; omega) (by have := unhide HP; simp; omega))
                       replace CG : Hid (Cg w X5 b g Dx) := ⟨(unhide CG).dv.kept K5 (by have := unhide HP; simp; omega) (by have := unhide HP; simp; omega), (unhide CG).k.fresh K5 (fun i hi hl => by have := unhide HP; simp at hi; omega), (unhide CG).ge⟩
                       replace M2 := hide B5
                       clear B5 K5
                       refine Stp.go ?_))
                  constructor
                  go_wp2_with (
                    first
                    | (refine wpLoadA row38 (by rfl) (.tmp 20) (by rfl) m2 0 (by kernel_rfl) (u8s s) (sec_u8 (unhide HSs)) (unhide M1).range ?_
                       refine Stp.go ?_))
                  constructor
                  go_wp2_with (
                    first
                    | (refine wpLoadA row38 (by rfl) (.tmp 22) (by rfl) m4 0 (by kernel_rfl) (u8s s) (sec_u8 (unhide HSs)) (unhide M2).range ?_
                       refine Stp.go ?_))
                  constructor
                  go_wp2_with (
                    first
                    | (refine wpNeqSS (by rfl) (.tmp 185) (.tmp 186) (by rfl) s (unhide HSs) (by kernel_rfl) (by kernel_rfl) ?_))
                  go_roundw
                  case rel => exact ⟨k + 1, by omega, by go_num, CG, CB⟩
                  case measure => simp [intOf]; omega
                · obtain rfl := (hout hc).symm
                  clear hin hout
                  by_cases hc1 : k < ln
                  · have hc2 : n ≤ (k : Int) := by omega
                    clear hc
                    exfalso
                    omega
                  · clear hc
                    go_wp2_with (
                      first
                      | (go_at_call 26
                         refine (unhide P26 _ (unhide CG).dv).mono ?_
                         rintro e X1 ⟨rfl, K1⟩
                         replace CG := hide ((unhide CG).step K1)
                         replace CB := hide ((unhide CB).kept K1 (by simp) (by simp))
                         clear K1
                         refine Stp.go ?_))
                    constructor
                    go_wp2_with (
                      first
                      | (refine wpNew row38 (u8s nought) (sec_u8 nought_sec) zero38 20 (by rfl) (by rfl) (by rfl) (.tmp 164) (by rfl) (by rfl) (by rfl) (u8s s) (sec_u8 (unhide HSs)) (u8s_one _) (by kernel_rfl) (by kernel_rfl) ?_
                         intro X2 m2 e2 B2 K2
                         replace CG := hide ((unhide CG).step K2)
                         replace CB := hide ((unhide CB).kept K2 (by simp) (by simp))
                         have M1 := hide B2
                         clear e2 B2 K2
                         refine Stp.go ?_))
                    constructor
                    go_wp2_with (
                      first
                      | (go_at_call 26
                         refine (unhide P26' _ (unhide CB)).mono ?_
                         rintro e X3 ⟨rfl, K3⟩
                         replace CG := hide ((unhide CG).step K3)
                         replace CB := hide ((unhide CB).kept K3 (by simp) (by simp))
                         replace M1 := hide ((unhide M1).kept K3 (by simp))
                         clear K3
                         refine Stp.go ?_))
                    constructor
                    go_wp2_with (
                      first
                      | (refine wpNew row38 (u8s nought) (sec_u8 nought_sec) zero38 22 (by rfl) (by rfl) (by rfl) (.tmp 170) (by rfl) (by rfl) (by rfl) (u8s s) (sec_u8 (unhide HSt)) (u8s_one _) (by kernel_rfl) (by kernel_rfl) ?_
                         intro X4 m4 e4 B4 K4
                         have HP : Hid (m2 ≠ m4 ∧ m4 ≠ b ∧ m4 ≠ g ∧ m4 ≠ b2 ∧ m4 ≠ g2 ∧ w.heap.size ≤ m4) := by have h5 := (unhide M1).lt; have h6 := (unhide CG).dv.lt; have h7 := (unhide CB).lt; have h8 := (unhide CG).k.size; exact ⟨by omega, by omega, by omega, by omega, by omega, by omega⟩
                         replace CG := hide ((unhide CG).step K4)
                         replace CB := hide ((unhide CB).kept K4 (by simp) (by simp))
                         replace M1 := hide ((unhide M1).kept K4 (by simp))
                         have M2 := hide B4
                         clear e4 B4 K4
                         refine Stp.go ?_))
                    constructor
                    go_wp2_with (
                      first
                      | (refine wpLoadA row38 (by rfl) (.tmp 20) (by rfl) m2 0 (by kernel_rfl) (u8s s) (sec_u8 (unhide HSs)) (unhide M1).range ?_
                         refine Stp.go ?_))
                    constructor
                    go_wp2_with (
                      first
                      | (refine wpLoadA row38 (by rfl) (.tmp 22) (by rfl) m4 0 (by kernel_rfl) (u8s s) (sec_u8 (unhide HSs)) (unhide M2).range ?_
                         refine Stp.go ?_))
                    constructor
                    go_wp2_with (
                      first
                      | (refine wpNeqSS (by rfl) (.tmp 185) (.tmp 186) (by rfl) s (unhide HSs) (by kernel_rfl) (by kernel_rfl) ?_))
                    go_roundw
                    case rel => exact ⟨k + 1, by omega, by go_num, CG, CB⟩
                    case measure => simp [intOf]; omega
              · go_wp2_with fail
                go_ret
                exact ⟨rfl, (unhide CG).k⟩
          · have P20 : Hid (∀ W, Dv W b g Dw → Calls Try.prog 20 #[P0 b] W fun e w' => e = .returned (.bool false) ∧ Dv w' b g Dw.uncut ∧ Kept [b, g] W w') := fun W h => by have := whole20 b g Dw W h; rw [hlost, decide_eq_true (by omega)] at this; exact this
            clear hlost
            go_wp2_with (
              first
              | (go_at_call 25
                 refine (unhide P25 _ (unhide CG).dv).mono ?_
                 rintro e U9 ⟨rfl, d7, k7⟩
                 replace CG := hide ((unhide CG).mut d7 k7)
                 replace CB := hide ((unhide CB).kept k7 (by have := unhide HB2; simp; omega) (by have := unhide HB2; simp; omega))
                 clear d7 k7 P25
                 refine Stp.go ?_))
            constructor
            go_wp2_with (
              first
              | (go_at_call 10; refine (num10 _ _).mono ?_; rintro e w' ⟨rfl, hww⟩; obtain rfl := hww.symm; clear hww
                 refine Stp.go ?_))
            constructor
            go_wp2_with (
              first
              | (go_at_call 22
                 refine (unhide P22' _ (unhide CG).k (unhide CG).ge (unhide CG).dv).mono ?_
                 rintro e U10 ⟨rfl, d7, k7⟩
                 replace CG := hide ((unhide CG).mut d7 k7)
                 replace CB := hide ((unhide CB).kept k7 (by have := unhide HB2; simp; omega) (by have := unhide HB2; simp; omega))
                 clear d7 k7 P22'
                 refine Stp.go ?_))
            constructor
            go_wp2_with (
              first
              | (go_at_call 10; refine (num10 _ _).mono ?_; rintro e w' ⟨rfl, hww⟩; obtain rfl := hww.symm; clear hww
                 refine Stp.go ?_))
            constructor
            go_wp2_with (
              first
              | (go_at_call 20
                 refine (unhide P20 _ (unhide CG).dv).mono ?_
                 rintro e U11 ⟨rfl, d7, k7⟩
                 replace CG := hide ((unhide CG).mut d7 k7)
                 replace CB := hide ((unhide CB).kept k7 (by have := unhide HB2; simp; omega) (by have := unhide HB2; simp; omega))
                 clear d7 k7 P20))
            obtain ⟨Dx, hDx⟩ : ∃ Dx, Dw.uncut = Dx := ⟨_, rfl⟩
            have HRX : Hid (∀ k : Nat, k < 40 → ∃ s t, Dx.read k = (s, 0) ∧ D1.read k = (t, 0) ∧ Sec s ∧ Sec t ∧ (k < ln ∧ (k : Int) < n → L[k]? = some s) ∧ (¬(k < ln ∧ (k : Int) < n) → t = s)) := fun k hk => by
              rw [← hDx]
              exact cut_reads (unhide HL).len (unhide CG).dv.ok.sec (unhide CB).ok.sec (unhide HSW) (unhide HS1) (unhide HRD) k hk
            rw [hDx] at CG
            clear hDx HRD HSW HS1 HN1 HNW
            go_loopw [19] (fun i wv => ∃ k : Nat, k ≤ 40 ∧ i = .int .i64 k ∧ Hid (Cg w wv b g Dx) ∧ Hid (Dv wv b2 g2 D1)) (fun i _ => 40 - (intOf i).toNat)
            case atStart => exact ⟨0, by omega, rfl, CG, CB⟩
            case round =>
              clear CG CB
              obtain ⟨k, hk, rfl, CG, CB⟩ := hrel
              by_cases hk4 : k < 40
              · obtain ⟨s, t, hr1, hr2, hs, ht, hin, hout⟩ := unhide HRX k hk4
                have P26 : Hid (∀ W, Dv W b g Dx → Calls Try.prog 26 #[P0 b, .int .i64 k] W fun e w' => e = .returned (.tuple #[secV s, .int .i64 0]) ∧ Kept [] W w') := fun W h => by have := read26 b g Dx k W h (by omega); rw [hr1] at this; exact this
                have P26' : Hid (∀ W, Dv W b2 g2 D1 → Calls Try.prog 26 #[P0 b2, .int .i64 k] W fun e w' => e = .returned (.tuple #[secV t, .int .i64 0]) ∧ Kept [] W w') := fun W h => by have := read26 b2 g2 D1 k W h (by omega); rw [hr2] at this; exact this
                have HSs := hide hs
                have HSt := hide ht
                clear hr1 hr2 hs ht
                by_cases hc : k < ln ∧ (k : Int) < n
                · have hgs := hin hc
                  obtain ⟨hc1, hc2⟩ := hc
                  have hL3 := (unhide HL).kept (unhide CG).k (X := []) (fun _ _ _ => by simp)
                  obtain ⟨h, off, rfl, hg⟩ := hL3.lies (by intro e; rw [e] at hgs; simp at hgs)
                  have hrk := hg k (by rw [hL3.len]; exact hc1)
                  have hgs2 : L[k]'(by rw [hL3.len]; exact hc1) = s := by have := List.getElem?_eq_getElem (l := L) (i := k) (by rw [hL3.len]; exact hc1); rw [this] at hgs; simpa using hgs
                  rw [hgs2] at hrk
                  have HH : Hid (h < w.heap.size) := unhide HO (by intro e; rw [e] at hgs; simp at hgs) h off rfl
                  have HR : Hid (wr.rangeAt h (off + k * 64) (u8s s)) := hrk
                  clear hrk hg hgs hgs2 hL3 hin hout
                  go_wp2_with (
                    first
                    | (go_at_call 26
                       refine (unhide P26 _ (unhide CG).dv).mono ?_
                       rintro e X1 ⟨rfl, K1⟩
                       replace CG := hide ((unhide CG).step K1)
                       replace CB := hide ((unhide CB).kept K1 (by simp) (by simp))
                       replace HR : Hid (X1.rangeAt h (off + k * 64) (u8s s)) := fun j u hj => K1.cell (unhide HR j u hj) (by simp)
                       clear K1
                       refine Stp.go ?_))
                  constructor
                  go_wp2_with (
                    first
                    | (refine wpNew row38 (u8s nought) (sec_u8 nought_sec) zero38 20 (by rfl) (by rfl) (by rfl) (.tmp 164) (by rfl) (by rfl) (by rfl) (u8s s) (sec_u8 (unhide HSs)) (u8s_one _) (by kernel_rfl) (by kernel_rfl) ?_
                       intro X2 m2 e2 B2 K2
                       replace CG := hide ((unhide CG).step K2)
                       replace CB := hide ((unhide CB).kept K2 (by simp) (by simp))
                       have M1 := hide B2
                       replace HR : Hid (X2.rangeAt h (off + k * 64) (u8s s)) := fun j u hj => K2.cell (unhide HR j u hj) (by simp)
                       clear e2 B2 K2
                       refine Stp.go ?_))
                  constructor
                  go_wp2_with (
                    first
                    | (go_at_call 26
                       refine (unhide P26' _ (unhide CB)).mono ?_
                       rintro e X3 ⟨rfl, K3⟩
                       replace CG := hide ((unhide CG).step K3)
                       replace CB := hide ((unhide CB).kept K3 (by simp) (by simp))
                       replace M1 := hide ((unhide M1).kept K3 (by simp))
                       replace HR : Hid (X3.rangeAt h (off + k * 64) (u8s s)) := fun j u hj => K3.cell (unhide HR j u hj) (by simp)
                       clear K3
                       refine Stp.go ?_))
                  constructor
                  go_wp2_with (
                    first
                    | (refine wpNew row38 (u8s nought) (sec_u8 nought_sec) zero38 22 (by rfl) (by rfl) (by rfl) (.tmp 170) (by rfl) (by rfl) (by rfl) (u8s t) (sec_u8 (unhide HSt)) (u8s_one _) (by kernel_rfl) (by kernel_rfl) ?_
                       intro X4 m4 e4 B4 K4
                       have HP : Hid (m2 ≠ m4 ∧ m4 ≠ b ∧ m4 ≠ g ∧ m4 ≠ b2 ∧ m4 ≠ g2 ∧ w.heap.size ≤ m4) := by have h5 := (unhide M1).lt; have h6 := (unhide CG).dv.lt; have h7 := (unhide CB).lt; have h8 := (unhide CG).k.size; exact ⟨by omega, by omega, by omega, by omega, by omega, by omega⟩
                       replace CG := hide ((unhide CG).step K4)
                       replace CB := hide ((unhide CB).kept K4 (by simp) (by simp))
                       replace M1 := hide ((unhide M1).kept K4 (by simp))
                       have M2 := hide B4
                       replace HR : Hid (X4.rangeAt h (off + k * 64) (u8s s)) := fun j u hj => K4.cell (unhide HR j u hj) (by simp)
                       clear e4 B4 K4
                       refine Stp.go ?_))
                  constructor
                  go_wp2_with (
                    first
                    | (refine wpLoadA row38 (by rfl) (.tmp 183) (by rfl) h (off + k * 64) (by kernel_rfl) (u8s s) (sec_u8 (unhide HSs)) (unhide HR) ?_
                       refine Stp.go ?_))
                  constructor
                  go_wp2_with (
                    first
                    | (refine wpStoreW row38 (by rfl) (.tmp 22) (.tmp 184) (by rfl) (by rfl) m4 (u8s t) (u8s s) (by kernel_rfl) (by kernel_rfl) (sec_u8 (unhide HSs)) (u8s_one _) (unhide M2) (sec_u8 (unhide HSt)) ?_
                       intro X5 B5 K5
                       replace M1 := hide ((unhide M1).kept K5 (by have := unhide HP; simp; omega))
                       replace CB := hide ((unhide CB).kept K5 (by have := unhide HP; simp; omega) (by have := unhide HP; simp; omega))
                       replace CG : Hid (Cg w X5 b g Dx) := ⟨(unhide CG).dv.kept K5 (by have := unhide HP; simp; omega) (by have := unhide HP; simp; omega), (unhide CG).k.fresh K5 (fun i hi hl => by have := unhide HP; simp at hi; omega), (unhide CG).ge⟩
                       replace M2 := hide B5
                       clear B5 K5
                       refine Stp.go ?_))
                  constructor
                  go_wp2_with (
                    first
                    | (refine wpLoadA row38 (by rfl) (.tmp 20) (by rfl) m2 0 (by kernel_rfl) (u8s s) (sec_u8 (unhide HSs)) (unhide M1).range ?_
                       refine Stp.go ?_))
                  constructor
                  go_wp2_with (
                    first
                    | (refine wpLoadA row38 (by rfl) (.tmp 22) (by rfl) m4 0 (by kernel_rfl) (u8s s) (sec_u8 (unhide HSs)) (unhide M2).range ?_
                       refine Stp.go ?_))
                  constructor
                  go_wp2_with (
                    first
                    | (refine wpNeqSS (by rfl) (.tmp 185) (.tmp 186) (by rfl) s (unhide HSs) (by kernel_rfl) (by kernel_rfl) ?_))
                  go_roundw
                  case rel => exact ⟨k + 1, by omega, by go_num, CG, CB⟩
                  case measure => simp [intOf]; omega
                · obtain rfl := (hout hc).symm
                  clear hin hout
                  by_cases hc1 : k < ln
                  · have hc2 : n ≤ (k : Int) := by omega
                    clear hc
                    go_wp2_with (
                      first
                      | (go_at_call 26
                         refine (unhide P26 _ (unhide CG).dv).mono ?_
                         rintro e X1 ⟨rfl, K1⟩
                         replace CG := hide ((unhide CG).step K1)
                         replace CB := hide ((unhide CB).kept K1 (by simp) (by simp))
                         clear K1
                         refine Stp.go ?_))
                    constructor
                    go_wp2_with (
                      first
                      | (refine wpNew row38 (u8s nought) (sec_u8 nought_sec) zero38 20 (by rfl) (by rfl) (by rfl) (.tmp 164) (by rfl) (by rfl) (by rfl) (u8s s) (sec_u8 (unhide HSs)) (u8s_one _) (by kernel_rfl) (by kernel_rfl) ?_
                         intro X2 m2 e2 B2 K2
                         replace CG := hide ((unhide CG).step K2)
                         replace CB := hide ((unhide CB).kept K2 (by simp) (by simp))
                         have M1 := hide B2
                         clear e2 B2 K2
                         refine Stp.go ?_))
                    constructor
                    go_wp2_with (
                      first
                      | (go_at_call 26
                         refine (unhide P26' _ (unhide CB)).mono ?_
                         rintro e X3 ⟨rfl, K3⟩
                         replace CG := hide ((unhide CG).step K3)
                         replace CB := hide ((unhide CB).kept K3 (by simp) (by simp))
                         replace M1 := hide ((unhide M1).kept K3 (by simp))
                         clear K3
                         refine Stp.go ?_))
                    constructor
                    go_wp2_with (
                      first
                      | (refine wpNew row38 (u8s nought) (sec_u8 nought_sec) zero38 22 (by rfl) (by rfl) (by rfl) (.tmp 170) (by rfl) (by rfl) (by rfl) (u8s s) (sec_u8 (unhide HSt)) (u8s_one _) (by kernel_rfl) (by kernel_rfl) ?_
                         intro X4 m4 e4 B4 K4
                         have HP : Hid (m2 ≠ m4 ∧ m4 ≠ b ∧ m4 ≠ g ∧ m4 ≠ b2 ∧ m4 ≠ g2 ∧ w.heap.size ≤ m4) := by have h5 := (unhide M1).lt; have h6 := (unhide CG).dv.lt; have h7 := (unhide CB).lt; have h8 := (unhide CG).k.size; exact ⟨by omega, by omega, by omega, by omega, by omega, by omega⟩
                         replace CG := hide ((unhide CG).step K4)
                         replace CB := hide ((unhide CB).kept K4 (by simp) (by simp))
                         replace M1 := hide ((unhide M1).kept K4 (by simp))
                         have M2 := hide B4
                         clear e4 B4 K4
                         refine Stp.go ?_))
                    constructor
                    go_wp2_with (
                      first
                      | (refine wpLoadA row38 (by rfl) (.tmp 20) (by rfl) m2 0 (by kernel_rfl) (u8s s) (sec_u8 (unhide HSs)) (unhide M1).range ?_
                         refine Stp.go ?_))
                    constructor
                    go_wp2_with (
                      first
                      | (refine wpLoadA row38 (by rfl) (.tmp 22) (by rfl) m4 0 (by kernel_rfl) (u8s s) (sec_u8 (unhide HSs)) (unhide M2).range ?_
                         refine Stp.go ?_))
                    constructor
                    go_wp2_with (
                      first
                      | (refine wpNeqSS (by rfl) (.tmp 185) (.tmp 186) (by rfl) s (unhide HSs) (by kernel_rfl) (by kernel_rfl) ?_))
                    go_roundw
                    case rel => exact ⟨k + 1, by omega, by go_num, CG, CB⟩
                    case measure => simp [intOf]; omega
                  · clear hc
                    go_wp2_with (
                      first
                      | (go_at_call 26
                         refine (unhide P26 _ (unhide CG).dv).mono ?_
                         rintro e X1 ⟨rfl, K1⟩
                         replace CG := hide ((unhide CG).step K1)
                         replace CB := hide ((unhide CB).kept K1 (by simp) (by simp))
                         clear K1
                         refine Stp.go ?_))
                    constructor
                    go_wp2_with (
                      first
                      | (refine wpNew row38 (u8s nought) (sec_u8 nought_sec) zero38 20 (by rfl) (by rfl) (by rfl) (.tmp 164) (by rfl) (by rfl) (by rfl) (u8s s) (sec_u8 (unhide HSs)) (u8s_one _) (by kernel_rfl) (by kernel_rfl) ?_
                         intro X2 m2 e2 B2 K2
                         replace CG := hide ((unhide CG).step K2)
                         replace CB := hide ((unhide CB).kept K2 (by simp) (by simp))
                         have M1 := hide B2
                         clear e2 B2 K2
                         refine Stp.go ?_))
                    constructor
                    go_wp2_with (
                      first
                      | (go_at_call 26
                         refine (unhide P26' _ (unhide CB)).mono ?_
                         rintro e X3 ⟨rfl, K3⟩
                         replace CG := hide ((unhide CG).step K3)
                         replace CB := hide ((unhide CB).kept K3 (by simp) (by simp))
                         replace M1 := hide ((unhide M1).kept K3 (by simp))
                         clear K3
                         refine Stp.go ?_))
                    constructor
                    go_wp2_with (
                      first
                      | (refine wpNew row38 (u8s nought) (sec_u8 nought_sec) zero38 22 (by rfl) (by rfl) (by rfl) (.tmp 170) (by rfl) (by rfl) (by rfl) (u8s s) (sec_u8 (unhide HSt)) (u8s_one _) (by kernel_rfl) (by kernel_rfl) ?_
                         intro X4 m4 e4 B4 K4
                         have HP : Hid (m2 ≠ m4 ∧ m4 ≠ b ∧ m4 ≠ g ∧ m4 ≠ b2 ∧ m4 ≠ g2 ∧ w.heap.size ≤ m4) := by have h5 := (unhide M1).lt; have h6 := (unhide CG).dv.lt; have h7 := (unhide CB).lt; have h8 := (unhide CG).k.size; exact ⟨by omega, by omega, by omega, by omega, by omega, by omega⟩
                         replace CG := hide ((unhide CG).step K4)
                         replace CB := hide ((unhide CB).kept K4 (by simp) (by simp))
                         replace M1 := hide ((unhide M1).kept K4 (by simp))
                         have M2 := hide B4
                         clear e4 B4 K4
                         refine Stp.go ?_))
                    constructor
                    go_wp2_with (
                      first
                      | (refine wpLoadA row38 (by rfl) (.tmp 20) (by rfl) m2 0 (by kernel_rfl) (u8s s) (sec_u8 (unhide HSs)) (unhide M1).range ?_
                         refine Stp.go ?_))
                    constructor
                    go_wp2_with (
                      first
                      | (refine wpLoadA row38 (by rfl) (.tmp 22) (by rfl) m4 0 (by kernel_rfl) (u8s s) (sec_u8 (unhide HSs)) (unhide M2).range ?_
                         refine Stp.go ?_))
                    constructor
                    go_wp2_with (
                      first
                      | (refine wpNeqSS (by rfl) (.tmp 185) (.tmp 186) (by rfl) s (unhide HSs) (by kernel_rfl) (by kernel_rfl) ?_))
                    go_roundw
                    case rel => exact ⟨k + 1, by omega, by go_num, CG, CB⟩
                    case measure => simp [intOf]; omega
              · go_wp2_with fail
                go_ret
                exact ⟨rfl, (unhide CG).k⟩
        · go_wp2_with (
            first
            | (go_at_call 17
               refine (unhide P17 _ (unhide CG).dv (unhide CB)).mono ?_
               rintro e U8 ⟨rfl, k8⟩
               replace CG := hide ((unhide CG).step k8)
               replace CB := hide ((unhide CB).kept k8 (by simp) (by simp))
               clear k8))
          obtain ⟨Dc, Dw, hc1, hc2, hlost, hSw, hrd⟩ := unhide HCW (by rw [(unhide HL).len]; omega)
          rw [(unhide HL).len] at hlost
          rw [unhide HNW] at hc2
          have P25 : Hid (∀ W, Dv W b g D1 → Calls Try.prog 25 #[P0 b, .int .i64 n] W fun e w' => e = .returned (.int .i64 0) ∧ Dv w' b g Dc ∧ Kept [b, g] W w') := fun W h => by have := cut25 b g D1 n W h hn; rw [hc1] at this; exact this
          have P22' : Hid (∀ W, Kept [] w W → (w.heap.size ≤ b ∧ w.heap.size ≤ g) → Dv W b g Dc → Calls Try.prog 22 #[P0 b, .int .i64 0, .int .i64 nw, .int .i64 0, .slice lo ln lc] W fun e w' => e = .returned (.int .i64 0) ∧ Dv w' b g Dw ∧ Kept [b, g] W w') := fun W hk hge h => by
            have := write22E b g Dc 0 nw 0 lo ln lc L W h (by omega) (by omega) ((unhide HL).kept hk (fun _ _ _ => by simp)) (fun hne h off e hm => by have := unhide HO hne h off e; simp at hm; omega)
            rw [hc2] at this
            exact this
          have HRD := hide hrd
          have HSW := hide hSw
          clear hc1 hc2 hrd hSw HCW
          by_cases hle : (ln : Int) ≤ n
          · have P20 : Hid (∀ W, Dv W b g Dw → Calls Try.prog 20 #[P0 b] W fun e w' => e = .returned (.bool true) ∧ Dv w' b g Dw.uncut ∧ Kept [b, g] W w') := fun W h => by have := whole20 b g Dw W h; rw [hlost, decide_eq_false (by omega)] at this; exact this
            clear hlost
            go_wp2_with (
              first
              | (go_at_call 25
                 refine (unhide P25 _ (unhide CG).dv).mono ?_
                 rintro e U9 ⟨rfl, d7, k7⟩
                 replace CG := hide ((unhide CG).mut d7 k7)
                 replace CB := hide ((unhide CB).kept k7 (by have := unhide HB2; simp; omega) (by have := unhide HB2; simp; omega))
                 clear d7 k7 P25
                 refine Stp.go ?_))
            constructor
            go_wp2_with (
              first
              | (go_at_call 10; refine (num10 _ _).mono ?_; rintro e w' ⟨rfl, hww⟩; obtain rfl := hww.symm; clear hww
                 refine Stp.go ?_))
            constructor
            go_wp2_with (
              first
              | (go_at_call 22
                 refine (unhide P22' _ (unhide CG).k (unhide CG).ge (unhide CG).dv).mono ?_
                 rintro e U10 ⟨rfl, d7, k7⟩
                 replace CG := hide ((unhide CG).mut d7 k7)
                 replace CB := hide ((unhide CB).kept k7 (by have := unhide HB2; simp; omega) (by have := unhide HB2; simp; omega))
                 clear d7 k7 P22'
                 refine Stp.go ?_))
            constructor
            go_wp2_with (
              first
              | (go_at_call 10; refine (num10 _ _).mono ?_; rintro e w' ⟨rfl, hww⟩; obtain rfl := hww.symm; clear hww
                 refine Stp.go ?_))
            constructor
            go_wp2_with (
              first
              | (go_at_call 20
                 refine (unhide P20 _ (unhide CG).dv).mono ?_
                 rintro e U11 ⟨rfl, d7, k7⟩
                 replace CG := hide ((unhide CG).mut d7 k7)
                 replace CB := hide ((unhide CB).kept k7 (by have := unhide HB2; simp; omega) (by have := unhide HB2; simp; omega))
                 clear d7 k7 P20))
            obtain ⟨Dx, hDx⟩ : ∃ Dx, Dw.uncut = Dx := ⟨_, rfl⟩
            have HRX : Hid (∀ k : Nat, k < 40 → ∃ s t, Dx.read k = (s, 0) ∧ D1.read k = (t, 0) ∧ Sec s ∧ Sec t ∧ (k < ln ∧ (k : Int) < n → L[k]? = some s) ∧ (¬(k < ln ∧ (k : Int) < n) → t = s)) := fun k hk => by
              rw [← hDx]
              exact cut_reads (unhide HL).len (unhide CG).dv.ok.sec (unhide CB).ok.sec (unhide HSW) (unhide HS1) (unhide HRD) k hk
            rw [hDx] at CG
            clear hDx HRD HSW HS1 HN1 HNW
            go_loopw [19] (fun i wv => ∃ k : Nat, k ≤ 40 ∧ i = .int .i64 k ∧ Hid (Cg w wv b g Dx) ∧ Hid (Dv wv b2 g2 D1)) (fun i _ => 40 - (intOf i).toNat)
            case atStart => exact ⟨0, by omega, rfl, CG, CB⟩
            case round =>
              clear CG CB
              obtain ⟨k, hk, rfl, CG, CB⟩ := hrel
              by_cases hk4 : k < 40
              · obtain ⟨s, t, hr1, hr2, hs, ht, hin, hout⟩ := unhide HRX k hk4
                have P26 : Hid (∀ W, Dv W b g Dx → Calls Try.prog 26 #[P0 b, .int .i64 k] W fun e w' => e = .returned (.tuple #[secV s, .int .i64 0]) ∧ Kept [] W w') := fun W h => by have := read26 b g Dx k W h (by omega); rw [hr1] at this; exact this
                have P26' : Hid (∀ W, Dv W b2 g2 D1 → Calls Try.prog 26 #[P0 b2, .int .i64 k] W fun e w' => e = .returned (.tuple #[secV t, .int .i64 0]) ∧ Kept [] W w') := fun W h => by have := read26 b2 g2 D1 k W h (by omega); rw [hr2] at this; exact this
                have HSs := hide hs
                have HSt := hide ht
                clear hr1 hr2 hs ht
                by_cases hc : k < ln ∧ (k : Int) < n
                · have hgs := hin hc
                  obtain ⟨hc1, hc2⟩ := hc
                  have hL3 := (unhide HL).kept (unhide CG).k (X := []) (fun _ _ _ => by simp)
                  obtain ⟨h, off, rfl, hg⟩ := hL3.lies (by intro e; rw [e] at hgs; simp at hgs)
                  have hrk := hg k (by rw [hL3.len]; exact hc1)
                  have hgs2 : L[k]'(by rw [hL3.len]; exact hc1) = s := by have := List.getElem?_eq_getElem (l := L) (i := k) (by rw [hL3.len]; exact hc1); rw [this] at hgs; simpa using hgs
                  rw [hgs2] at hrk
                  have HH : Hid (h < w.heap.size) := unhide HO (by intro e; rw [e] at hgs; simp at hgs) h off rfl
                  have HR : Hid (wr.rangeAt h (off + k * 64) (u8s s)) := hrk
                  clear hrk hg hgs hgs2 hL3 hin hout
                  go_wp2_with (
                    first
                    | (go_at_call 26
                       refine (unhide P26 _ (unhide CG).dv).mono ?_
                       rintro e X1 ⟨rfl, K1⟩
                       replace CG := hide ((unhide CG).step K1)
                       replace CB := hide ((unhide CB).kept K1 (by simp) (by simp))
                       replace HR : Hid (X1.rangeAt h (off + k * 64) (u8s s)) := fun j u hj => K1.cell (unhide HR j u hj) (by simp)
                       clear K1
                       refine Stp.go ?_))
                  constructor
                  go_wp2_with (
                    first
                    | (refine wpNew row38 (u8s nought) (sec_u8 nought_sec) zero38 20 (by rfl) (by rfl) (by rfl) (.tmp 164) (by rfl) (by rfl) (by rfl) (u8s s) (sec_u8 (unhide HSs)) (u8s_one _) (by kernel_rfl) (by kernel_rfl) ?_
                       intro X2 m2 e2 B2 K2
                       replace CG := hide ((unhide CG).step K2)
                       replace CB := hide ((unhide CB).kept K2 (by simp) (by simp))
                       have M1 := hide B2
                       replace HR : Hid (X2.rangeAt h (off + k * 64) (u8s s)) := fun j u hj => K2.cell (unhide HR j u hj) (by simp)
                       clear e2 B2 K2
                       refine Stp.go ?_))
                  constructor
                  go_wp2_with (
                    first
                    | (go_at_call 26
                       refine (unhide P26' _ (unhide CB)).mono ?_
                       rintro e X3 ⟨rfl, K3⟩
                       replace CG := hide ((unhide CG).step K3)
                       replace CB := hide ((unhide CB).kept K3 (by simp) (by simp))
                       replace M1 := hide ((unhide M1).kept K3 (by simp))
                       replace HR : Hid (X3.rangeAt h (off + k * 64) (u8s s)) := fun j u hj => K3.cell (unhide HR j u hj) (by simp)
                       clear K3
                       refine Stp.go ?_))
                  constructor
                  go_wp2_with (
                    first
                    | (refine wpNew row38 (u8s nought) (sec_u8 nought_sec) zero38 22 (by rfl) (by rfl) (by rfl) (.tmp 170) (by rfl) (by rfl) (by rfl) (u8s t) (sec_u8 (unhide HSt)) (u8s_one _) (by kernel_rfl) (by kernel_rfl) ?_
                       intro X4 m4 e4 B4 K4
                       have HP : Hid (m2 ≠ m4 ∧ m4 ≠ b ∧ m4 ≠ g ∧ m4 ≠ b2 ∧ m4 ≠ g2 ∧ w.heap.size ≤ m4) := by have h5 := (unhide M1).lt; have h6 := (unhide CG).dv.lt; have h7 := (unhide CB).lt; have h8 := (unhide CG).k.size; exact ⟨by omega, by omega, by omega, by omega, by omega, by omega⟩
                       replace CG := hide ((unhide CG).step K4)
                       replace CB := hide ((unhide CB).kept K4 (by simp) (by simp))
                       replace M1 := hide ((unhide M1).kept K4 (by simp))
                       have M2 := hide B4
                       replace HR : Hid (X4.rangeAt h (off + k * 64) (u8s s)) := fun j u hj => K4.cell (unhide HR j u hj) (by simp)
                       clear e4 B4 K4
                       refine Stp.go ?_))
                  constructor
                  go_wp2_with (
                    first
                    | (refine wpLoadA row38 (by rfl) (.tmp 183) (by rfl) h (off + k * 64) (by kernel_rfl) (u8s s) (sec_u8 (unhide HSs)) (unhide HR) ?_
                       refine Stp.go ?_))
                  constructor
                  go_wp2_with (
                    first
                    | (refine wpStoreW row38 (by rfl) (.tmp 22) (.tmp 184) (by rfl) (by rfl) m4 (u8s t) (u8s s) (by kernel_rfl) (by kernel_rfl) (sec_u8 (unhide HSs)) (u8s_one _) (unhide M2) (sec_u8 (unhide HSt)) ?_
                       intro X5 B5 K5
                       replace M1 := hide ((unhide M1).kept K5 (by have := unhide HP; simp; omega))
                       replace CB := hide ((unhide CB).kept K5 (by have := unhide HP; simp; omega) (by have := unhide HP; simp; omega))
                       replace CG : Hid (Cg w X5 b g Dx) := ⟨(unhide CG).dv.kept K5 (by have := unhide HP; simp; omega) (by have := unhide HP; simp; omega), (unhide CG).k.fresh K5 (fun i hi hl => by have := unhide HP; simp at hi; omega), (unhide CG).ge⟩
                       replace M2 := hide B5
                       clear B5 K5
                       refine Stp.go ?_))
                  constructor
                  go_wp2_with (
                    first
                    | (refine wpLoadA row38 (by rfl) (.tmp 20) (by rfl) m2 0 (by kernel_rfl) (u8s s) (sec_u8 (unhide HSs)) (unhide M1).range ?_
                       refine Stp.go ?_))
                  constructor
                  go_wp2_with (
                    first
                    | (refine wpLoadA row38 (by rfl) (.tmp 22) (by rfl) m4 0 (by kernel_rfl) (u8s s) (sec_u8 (unhide HSs)) (unhide M2).range ?_
                       refine Stp.go ?_))
                  constructor
                  go_wp2_with (
                    first
                    | (refine wpNeqSS (by rfl) (.tmp 185) (.tmp 186) (by rfl) s (unhide HSs) (by kernel_rfl) (by kernel_rfl) ?_))
                  go_roundw
                  case rel => exact ⟨k + 1, by omega, by go_num, CG, CB⟩
                  case measure => simp [intOf]; omega
                · obtain rfl := (hout hc).symm
                  clear hin hout
                  by_cases hc1 : k < ln
                  · have hc2 : n ≤ (k : Int) := by omega
                    clear hc
                    exfalso
                    omega
                  · clear hc
                    go_wp2_with (
                      first
                      | (go_at_call 26
                         refine (unhide P26 _ (unhide CG).dv).mono ?_
                         rintro e X1 ⟨rfl, K1⟩
                         replace CG := hide ((unhide CG).step K1)
                         replace CB := hide ((unhide CB).kept K1 (by simp) (by simp))
                         clear K1
                         refine Stp.go ?_))
                    constructor
                    go_wp2_with (
                      first
                      | (refine wpNew row38 (u8s nought) (sec_u8 nought_sec) zero38 20 (by rfl) (by rfl) (by rfl) (.tmp 164) (by rfl) (by rfl) (by rfl) (u8s s) (sec_u8 (unhide HSs)) (u8s_one _) (by kernel_rfl) (by kernel_rfl) ?_
                         intro X2 m2 e2 B2 K2
                         replace CG := hide ((unhide CG).step K2)
                         replace CB := hide ((unhide CB).kept K2 (by simp) (by simp))
                         have M1 := hide B2
                         clear e2 B2 K2
                         refine Stp.go ?_))
                    constructor
                    go_wp2_with (
                      first
                      | (go_at_call 26
                         refine (unhide P26' _ (unhide CB)).mono ?_
                         rintro e X3 ⟨rfl, K3⟩
                         replace CG := hide ((unhide CG).step K3)
                         replace CB := hide ((unhide CB).kept K3 (by simp) (by simp))
                         replace M1 := hide ((unhide M1).kept K3 (by simp))
                         clear K3
                         refine Stp.go ?_))
                    constructor
                    go_wp2_with (
                      first
                      | (refine wpNew row38 (u8s nought) (sec_u8 nought_sec) zero38 22 (by rfl) (by rfl) (by rfl) (.tmp 170) (by rfl) (by rfl) (by rfl) (u8s s) (sec_u8 (unhide HSt)) (u8s_one _) (by kernel_rfl) (by kernel_rfl) ?_
                         intro X4 m4 e4 B4 K4
                         have HP : Hid (m2 ≠ m4 ∧ m4 ≠ b ∧ m4 ≠ g ∧ m4 ≠ b2 ∧ m4 ≠ g2 ∧ w.heap.size ≤ m4) := by have h5 := (unhide M1).lt; have h6 := (unhide CG).dv.lt; have h7 := (unhide CB).lt; have h8 := (unhide CG).k.size; exact ⟨by omega, by omega, by omega, by omega, by omega, by omega⟩
                         replace CG := hide ((unhide CG).step K4)
                         replace CB := hide ((unhide CB).kept K4 (by simp) (by simp))
                         replace M1 := hide ((unhide M1).kept K4 (by simp))
                         have M2 := hide B4
                         clear e4 B4 K4
                         refine Stp.go ?_))
                    constructor
                    go_wp2_with (
                      first
                      | (refine wpLoadA row38 (by rfl) (.tmp 20) (by rfl) m2 0 (by kernel_rfl) (u8s s) (sec_u8 (unhide HSs)) (unhide M1).range ?_
                         refine Stp.go ?_))
                    constructor
                    go_wp2_with (
                      first
                      | (refine wpLoadA row38 (by rfl) (.tmp 22) (by rfl) m4 0 (by kernel_rfl) (u8s s) (sec_u8 (unhide HSs)) (unhide M2).range ?_
                         refine Stp.go ?_))
                    constructor
                    go_wp2_with (
                      first
                      | (refine wpNeqSS (by rfl) (.tmp 185) (.tmp 186) (by rfl) s (unhide HSs) (by kernel_rfl) (by kernel_rfl) ?_))
                    go_roundw
                    case rel => exact ⟨k + 1, by omega, by go_num, CG, CB⟩
                    case measure => simp [intOf]; omega
              · go_wp2_with fail
                go_ret
                exact ⟨rfl, (unhide CG).k⟩
          · have P20 : Hid (∀ W, Dv W b g Dw → Calls Try.prog 20 #[P0 b] W fun e w' => e = .returned (.bool false) ∧ Dv w' b g Dw.uncut ∧ Kept [b, g] W w') := fun W h => by have := whole20 b g Dw W h; rw [hlost, decide_eq_true (by omega)] at this; exact this
            clear hlost
            go_wp2_with (
              first
              | (go_at_call 25
                 refine (unhide P25 _ (unhide CG).dv).mono ?_
                 rintro e U9 ⟨rfl, d7, k7⟩
                 replace CG := hide ((unhide CG).mut d7 k7)
                 replace CB := hide ((unhide CB).kept k7 (by have := unhide HB2; simp; omega) (by have := unhide HB2; simp; omega))
                 clear d7 k7 P25
                 refine Stp.go ?_))
            constructor
            go_wp2_with (
              first
              | (go_at_call 10; refine (num10 _ _).mono ?_; rintro e w' ⟨rfl, hww⟩; obtain rfl := hww.symm; clear hww
                 refine Stp.go ?_))
            constructor
            go_wp2_with (
              first
              | (go_at_call 22
                 refine (unhide P22' _ (unhide CG).k (unhide CG).ge (unhide CG).dv).mono ?_
                 rintro e U10 ⟨rfl, d7, k7⟩
                 replace CG := hide ((unhide CG).mut d7 k7)
                 replace CB := hide ((unhide CB).kept k7 (by have := unhide HB2; simp; omega) (by have := unhide HB2; simp; omega))
                 clear d7 k7 P22'
                 refine Stp.go ?_))
            constructor
            go_wp2_with (
              first
              | (go_at_call 10; refine (num10 _ _).mono ?_; rintro e w' ⟨rfl, hww⟩; obtain rfl := hww.symm; clear hww
                 refine Stp.go ?_))
            constructor
            go_wp2_with (
              first
              | (go_at_call 20
                 refine (unhide P20 _ (unhide CG).dv).mono ?_
                 rintro e U11 ⟨rfl, d7, k7⟩
                 replace CG := hide ((unhide CG).mut d7 k7)
                 replace CB := hide ((unhide CB).kept k7 (by have := unhide HB2; simp; omega) (by have := unhide HB2; simp; omega))
                 clear d7 k7 P20))
            obtain ⟨Dx, hDx⟩ : ∃ Dx, Dw.uncut = Dx := ⟨_, rfl⟩
            have HRX : Hid (∀ k : Nat, k < 40 → ∃ s t, Dx.read k = (s, 0) ∧ D1.read k = (t, 0) ∧ Sec s ∧ Sec t ∧ (k < ln ∧ (k : Int) < n → L[k]? = some s) ∧ (¬(k < ln ∧ (k : Int) < n) → t = s)) := fun k hk => by
              rw [← hDx]
              exact cut_reads (unhide HL).len (unhide CG).dv.ok.sec (unhide CB).ok.sec (unhide HSW) (unhide HS1) (unhide HRD) k hk
            rw [hDx] at CG
            clear hDx HRD HSW HS1 HN1 HNW
            go_loopw [19] (fun i wv => ∃ k : Nat, k ≤ 40 ∧ i = .int .i64 k ∧ Hid (Cg w wv b g Dx) ∧ Hid (Dv wv b2 g2 D1)) (fun i _ => 40 - (intOf i).toNat)
            case atStart => exact ⟨0, by omega, rfl, CG, CB⟩
            case round =>
              clear CG CB
              obtain ⟨k, hk, rfl, CG, CB⟩ := hrel
              by_cases hk4 : k < 40
              · obtain ⟨s, t, hr1, hr2, hs, ht, hin, hout⟩ := unhide HRX k hk4
                have P26 : Hid (∀ W, Dv W b g Dx → Calls Try.prog 26 #[P0 b, .int .i64 k] W fun e w' => e = .returned (.tuple #[secV s, .int .i64 0]) ∧ Kept [] W w') := fun W h => by have := read26 b g Dx k W h (by omega); rw [hr1] at this; exact this
                have P26' : Hid (∀ W, Dv W b2 g2 D1 → Calls Try.prog 26 #[P0 b2, .int .i64 k] W fun e w' => e = .returned (.tuple #[secV t, .int .i64 0]) ∧ Kept [] W w') := fun W h => by have := read26 b2 g2 D1 k W h (by omega); rw [hr2] at this; exact this
                have HSs := hide hs
                have HSt := hide ht
                clear hr1 hr2 hs ht
                by_cases hc : k < ln ∧ (k : Int) < n
                · have hgs := hin hc
                  obtain ⟨hc1, hc2⟩ := hc
                  have hL3 := (unhide HL).kept (unhide CG).k (X := []) (fun _ _ _ => by simp)
                  obtain ⟨h, off, rfl, hg⟩ := hL3.lies (by intro e; rw [e] at hgs; simp at hgs)
                  have hrk := hg k (by rw [hL3.len]; exact hc1)
                  have hgs2 : L[k]'(by rw [hL3.len]; exact hc1) = s := by have := List.getElem?_eq_getElem (l := L) (i := k) (by rw [hL3.len]; exact hc1); rw [this] at hgs; simpa using hgs
                  rw [hgs2] at hrk
                  have HH : Hid (h < w.heap.size) := unhide HO (by intro e; rw [e] at hgs; simp at hgs) h off rfl
                  have HR : Hid (wr.rangeAt h (off + k * 64) (u8s s)) := hrk
                  clear hrk hg hgs hgs2 hL3 hin hout
                  go_wp2_with (
                    first
                    | (go_at_call 26
                       refine (unhide P26 _ (unhide CG).dv).mono ?_
                       rintro e X1 ⟨rfl, K1⟩
                       replace CG := hide ((unhide CG).step K1)
                       replace CB := hide ((unhide CB).kept K1 (by simp) (by simp))
                       replace HR : Hid (X1.rangeAt h (off + k * 64) (u8s s)) := fun j u hj => K1.cell (unhide HR j u hj) (by simp)
                       clear K1
                       refine Stp.go ?_))
                  constructor
                  go_wp2_with (
                    first
                    | (refine wpNew row38 (u8s nought) (sec_u8 nought_sec) zero38 20 (by rfl) (by rfl) (by rfl) (.tmp 164) (by rfl) (by rfl) (by rfl) (u8s s) (sec_u8 (unhide HSs)) (u8s_one _) (by kernel_rfl) (by kernel_rfl) ?_
                       intro X2 m2 e2 B2 K2
                       replace CG := hide ((unhide CG).step K2)
                       replace CB := hide ((unhide CB).kept K2 (by simp) (by simp))
                       have M1 := hide B2
                       replace HR : Hid (X2.rangeAt h (off + k * 64) (u8s s)) := fun j u hj => K2.cell (unhide HR j u hj) (by simp)
                       clear e2 B2 K2
                       refine Stp.go ?_))
                  constructor
                  go_wp2_with (
                    first
                    | (go_at_call 26
                       refine (unhide P26' _ (unhide CB)).mono ?_
                       rintro e X3 ⟨rfl, K3⟩
                       replace CG := hide ((unhide CG).step K3)
                       replace CB := hide ((unhide CB).kept K3 (by simp) (by simp))
                       replace M1 := hide ((unhide M1).kept K3 (by simp))
                       replace HR : Hid (X3.rangeAt h (off + k * 64) (u8s s)) := fun j u hj => K3.cell (unhide HR j u hj) (by simp)
                       clear K3
                       refine Stp.go ?_))
                  constructor
                  go_wp2_with (
                    first
                    | (refine wpNew row38 (u8s nought) (sec_u8 nought_sec) zero38 22 (by rfl) (by rfl) (by rfl) (.tmp 170) (by rfl) (by rfl) (by rfl) (u8s t) (sec_u8 (unhide HSt)) (u8s_one _) (by kernel_rfl) (by kernel_rfl) ?_
                       intro X4 m4 e4 B4 K4
                       have HP : Hid (m2 ≠ m4 ∧ m4 ≠ b ∧ m4 ≠ g ∧ m4 ≠ b2 ∧ m4 ≠ g2 ∧ w.heap.size ≤ m4) := by have h5 := (unhide M1).lt; have h6 := (unhide CG).dv.lt; have h7 := (unhide CB).lt; have h8 := (unhide CG).k.size; exact ⟨by omega, by omega, by omega, by omega, by omega, by omega⟩
                       replace CG := hide ((unhide CG).step K4)
                       replace CB := hide ((unhide CB).kept K4 (by simp) (by simp))
                       replace M1 := hide ((unhide M1).kept K4 (by simp))
                       have M2 := hide B4
                       replace HR : Hid (X4.rangeAt h (off + k * 64) (u8s s)) := fun j u hj => K4.cell (unhide HR j u hj) (by simp)
                       clear e4 B4 K4
                       refine Stp.go ?_))
                  constructor
                  go_wp2_with (
                    first
                    | (refine wpLoadA row38 (by rfl) (.tmp 183) (by rfl) h (off + k * 64) (by kernel_rfl) (u8s s) (sec_u8 (unhide HSs)) (unhide HR) ?_
                       refine Stp.go ?_))
                  constructor
                  go_wp2_with (
                    first
                    | (refine wpStoreW row38 (by rfl) (.tmp 22) (.tmp 184) (by rfl) (by rfl) m4 (u8s t) (u8s s) (by kernel_rfl) (by kernel_rfl) (sec_u8 (unhide HSs)) (u8s_one _) (unhide M2) (sec_u8 (unhide HSt)) ?_
                       intro X5 B5 K5
                       replace M1 := hide ((unhide M1).kept K5 (by have := unhide HP; simp; omega))
                       replace CB := hide ((unhide CB).kept K5 (by have := unhide HP; simp; omega) (by have := unhide HP; simp; omega))
                       replace CG : Hid (Cg w X5 b g Dx) := ⟨(unhide CG).dv.kept K5 (by have := unhide HP; simp; omega) (by have := unhide HP; simp; omega), (unhide CG).k.fresh K5 (fun i hi hl => by have := unhide HP; simp at hi; omega), (unhide CG).ge⟩
                       replace M2 := hide B5
                       clear B5 K5
                       refine Stp.go ?_))
                  constructor
                  go_wp2_with (
                    first
                    | (refine wpLoadA row38 (by rfl) (.tmp 20) (by rfl) m2 0 (by kernel_rfl) (u8s s) (sec_u8 (unhide HSs)) (unhide M1).range ?_
                       refine Stp.go ?_))
                  constructor
                  go_wp2_with (
                    first
                    | (refine wpLoadA row38 (by rfl) (.tmp 22) (by rfl) m4 0 (by kernel_rfl) (u8s s) (sec_u8 (unhide HSs)) (unhide M2).range ?_
                       refine Stp.go ?_))
                  constructor
                  go_wp2_with (
                    first
                    | (refine wpNeqSS (by rfl) (.tmp 185) (.tmp 186) (by rfl) s (unhide HSs) (by kernel_rfl) (by kernel_rfl) ?_))
                  go_roundw
                  case rel => exact ⟨k + 1, by omega, by go_num, CG, CB⟩
                  case measure => simp [intOf]; omega
                · obtain rfl := (hout hc).symm
                  clear hin hout
                  by_cases hc1 : k < ln
                  · have hc2 : n ≤ (k : Int) := by omega
                    clear hc
                    go_wp2_with (
                      first
                      | (go_at_call 26
                         refine (unhide P26 _ (unhide CG).dv).mono ?_
                         rintro e X1 ⟨rfl, K1⟩
                         replace CG := hide ((unhide CG).step K1)
                         replace CB := hide ((unhide CB).kept K1 (by simp) (by simp))
                         clear K1
                         refine Stp.go ?_))
                    constructor
                    go_wp2_with (
                      first
                      | (refine wpNew row38 (u8s nought) (sec_u8 nought_sec) zero38 20 (by rfl) (by rfl) (by rfl) (.tmp 164) (by rfl) (by rfl) (by rfl) (u8s s) (sec_u8 (unhide HSs)) (u8s_one _) (by kernel_rfl) (by kernel_rfl) ?_
                         intro X2 m2 e2 B2 K2
                         replace CG := hide ((unhide CG).step K2)
                         replace CB := hide ((unhide CB).kept K2 (by simp) (by simp))
                         have M1 := hide B2
                         clear e2 B2 K2
                         refine Stp.go ?_))
                    constructor
                    go_wp2_with (
                      first
                      | (go_at_call 26
                         refine (unhide P26' _ (unhide CB)).mono ?_
                         rintro e X3 ⟨rfl, K3⟩
                         replace CG := hide ((unhide CG).step K3)
                         replace CB := hide ((unhide CB).kept K3 (by simp) (by simp))
                         replace M1 := hide ((unhide M1).kept K3 (by simp))
                         clear K3
                         refine Stp.go ?_))
                    constructor
                    go_wp2_with (
                      first
                      | (refine wpNew row38 (u8s nought) (sec_u8 nought_sec) zero38 22 (by rfl) (by rfl) (by rfl) (.tmp 170) (by rfl) (by rfl) (by rfl) (u8s s) (sec_u8 (unhide HSt)) (u8s_one _) (by kernel_rfl) (by kernel_rfl) ?_
                         intro X4 m4 e4 B4 K4
                         have HP : Hid (m2 ≠ m4 ∧ m4 ≠ b ∧ m4 ≠ g ∧ m4 ≠ b2 ∧ m4 ≠ g2 ∧ w.heap.size ≤ m4) := by have h5 := (unhide M1).lt; have h6 := (unhide CG).dv.lt; have h7 := (unhide CB).lt; have h8 := (unhide CG).k.size; exact ⟨by omega, by omega, by omega, by omega, by omega, by omega⟩
                         replace CG := hide ((unhide CG).step K4)
                         replace CB := hide ((unhide CB).kept K4 (by simp) (by simp))
                         replace M1 := hide ((unhide M1).kept K4 (by simp))
                         have M2 := hide B4
                         clear e4 B4 K4
                         refine Stp.go ?_))
                    constructor
                    go_wp2_with (
                      first
                      | (refine wpLoadA row38 (by rfl) (.tmp 20) (by rfl) m2 0 (by kernel_rfl) (u8s s) (sec_u8 (unhide HSs)) (unhide M1).range ?_
                         refine Stp.go ?_))
                    constructor
                    go_wp2_with (
                      first
                      | (refine wpLoadA row38 (by rfl) (.tmp 22) (by rfl) m4 0 (by kernel_rfl) (u8s s) (sec_u8 (unhide HSs)) (unhide M2).range ?_
                         refine Stp.go ?_))
                    constructor
                    go_wp2_with (
                      first
                      | (refine wpNeqSS (by rfl) (.tmp 185) (.tmp 186) (by rfl) s (unhide HSs) (by kernel_rfl) (by kernel_rfl) ?_))
                    go_roundw
                    case rel => exact ⟨k + 1, by omega, by go_num, CG, CB⟩
                    case measure => simp [intOf]; omega
                  · clear hc
                    go_wp2_with (
                      first
                      | (go_at_call 26
                         refine (unhide P26 _ (unhide CG).dv).mono ?_
                         rintro e X1 ⟨rfl, K1⟩
                         replace CG := hide ((unhide CG).step K1)
                         replace CB := hide ((unhide CB).kept K1 (by simp) (by simp))
                         clear K1
                         refine Stp.go ?_))
                    constructor
                    go_wp2_with (
                      first
                      | (refine wpNew row38 (u8s nought) (sec_u8 nought_sec) zero38 20 (by rfl) (by rfl) (by rfl) (.tmp 164) (by rfl) (by rfl) (by rfl) (u8s s) (sec_u8 (unhide HSs)) (u8s_one _) (by kernel_rfl) (by kernel_rfl) ?_
                         intro X2 m2 e2 B2 K2
                         replace CG := hide ((unhide CG).step K2)
                         replace CB := hide ((unhide CB).kept K2 (by simp) (by simp))
                         have M1 := hide B2
                         clear e2 B2 K2
                         refine Stp.go ?_))
                    constructor
                    go_wp2_with (
                      first
                      | (go_at_call 26
                         refine (unhide P26' _ (unhide CB)).mono ?_
                         rintro e X3 ⟨rfl, K3⟩
                         replace CG := hide ((unhide CG).step K3)
                         replace CB := hide ((unhide CB).kept K3 (by simp) (by simp))
                         replace M1 := hide ((unhide M1).kept K3 (by simp))
                         clear K3
                         refine Stp.go ?_))
                    constructor
                    go_wp2_with (
                      first
                      | (refine wpNew row38 (u8s nought) (sec_u8 nought_sec) zero38 22 (by rfl) (by rfl) (by rfl) (.tmp 170) (by rfl) (by rfl) (by rfl) (u8s s) (sec_u8 (unhide HSt)) (u8s_one _) (by kernel_rfl) (by kernel_rfl) ?_
                         intro X4 m4 e4 B4 K4
                         have HP : Hid (m2 ≠ m4 ∧ m4 ≠ b ∧ m4 ≠ g ∧ m4 ≠ b2 ∧ m4 ≠ g2 ∧ w.heap.size ≤ m4) := by have h5 := (unhide M1).lt; have h6 := (unhide CG).dv.lt; have h7 := (unhide CB).lt; have h8 := (unhide CG).k.size; exact ⟨by omega, by omega, by omega, by omega, by omega, by omega⟩
                         replace CG := hide ((unhide CG).step K4)
                         replace CB := hide ((unhide CB).kept K4 (by simp) (by simp))
                         replace M1 := hide ((unhide M1).kept K4 (by simp))
                         have M2 := hide B4
                         clear e4 B4 K4
                         refine Stp.go ?_))
                    constructor
                    go_wp2_with (
                      first
                      | (refine wpLoadA row38 (by rfl) (.tmp 20) (by rfl) m2 0 (by kernel_rfl) (u8s s) (sec_u8 (unhide HSs)) (unhide M1).range ?_
                         refine Stp.go ?_))
                    constructor
                    go_wp2_with (
                      first
                      | (refine wpLoadA row38 (by rfl) (.tmp 22) (by rfl) m4 0 (by kernel_rfl) (u8s s) (sec_u8 (unhide HSs)) (unhide M2).range ?_
                         refine Stp.go ?_))
                    constructor
                    go_wp2_with (
                      first
                      | (refine wpNeqSS (by rfl) (.tmp 185) (.tmp 186) (by rfl) s (unhide HSs) (by kernel_rfl) (by kernel_rfl) ?_))
                    go_roundw
                    case rel => exact ⟨k + 1, by omega, by go_num, CG, CB⟩
                    case measure => simp [intOf]; omega
              · go_wp2_with fail
                go_ret
                exact ⟨rfl, (unhide CG).k⟩


end Go.Proofs.Ytffflafalffifaa.K
