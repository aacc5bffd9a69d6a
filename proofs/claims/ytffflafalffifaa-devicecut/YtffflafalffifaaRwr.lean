/-
  The walk of the document's Write.
-/
import Derived.Test.YtffflafalffifaaRsw
namespace Go.Proofs.Ytffflafalffifaa
open Go.RowKit

/-- Sectors that are written as the document says: none is left out, whatever the one ahead. -/
def Dev.rputs (D : Dev) (k : Nat) : List (List Int) → Dev
  | [] => D
  | s :: L => (if D.does.2 then { D.does.1 with S := D.S.set k s } else D.does.1).rputs (k + 1) L

theorem does_no {D : Dev} (h : D.does.2 = false) : D.does.1.does = (D.does.1, false) := by
  unfold Dev.does at h ⊢
  split at h
  · rename_i hc
    rw [if_pos hc]
    simp [hc]
  · simp at h
theorem rputs_no : ∀ (L : List (List Int)) (D : Dev) (k : Nat), D.does = (D, false) → D.rputs k L = D := by
  intro L
  induction L with
  | nil => intro D k _; rfl
  | cons s L ih =>
    intro D k h
    rw [Dev.rputs, h]
    exact ih D (k + 1) h
theorem rputs_eq : ∀ (L : List (List Int)) (D : Dev) (k : Nat), D.rputs k L = D.puts k L := by
  intro L
  induction L with
  | nil => intro D k; rfl
  | cons s L ih =>
    intro D k
    rw [Dev.rputs, Dev.puts, step_does]
    cases hd : D.does.2 with
    | true =>
      simp only [if_true]
      have hs := does_S D
      rw [ih]
      congr 1
      rw [← hs.2.1]
    | false =>
      simp only [Bool.false_eq_true, if_false]
      exact rputs_no L _ _ (does_no hd)

set_option maxHeartbeats 4000000 in
set_option maxRecDepth 100000 in
theorem r_write (r sg eg : Nat) (D : Dev) (x ep f : Int) (ao : Option Addr) (n c : Nat) (L : List (List Int)) (w : World) (h : Rv w r sg eg D) (hf : -9223372036854775808 ≤ f ∧ f ≤ 9223372036854775807) (hn : n ≤ 9223372036854775807) (hL : Secs w ao n c L) (hA : Away ao [r, sg]) :
    Calls Try.prog 41 #[P0 r, .int .i64 x, .int .i64 ep, .int .i64 f, .slice ao n c] w fun e w' => e = .returned (.int .i64 (D.write x ep f L).1) ∧ Rv w' r sg eg (D.write x ep f L).2 ∧ Kept [r, sg] w w' := by
  have hlen := hL.len
  have hs1 := h.ok.s1
  obtain ⟨cap, ecap, c0, c1, c2, c3, c4, cf, hb, hec⟩ := h.cells
  have bad : D.ref x ep (hasS D.S.length f L.length) = 2 → D.write x ep f L = (2, D) := by
    intro h2
    simp only [Dev.write, h2]
    rfl
  by_cases hw0 : D.whoR x ep = 0
  · obtain ⟨hx, he0, he1⟩ := who_zero hw0
    have HW := hide (who_is r sg eg D x ep _ h 0 hw0)
    clear hw0
    by_cases hf0 : f < 0
    · rw [bad (ref_two (.inl (by simp [hasS]; omega)))]
      clear bad
      go_enter Try.func41, Try.ntmps41
      go_wp2_with (first | (go_at_call 59; refine (unhide HW).mono ?_; rintro e w' ⟨rfl, rfl⟩))
      go_ret
      exact ⟨rfl, h, Kept.refl _ _⟩
    · obtain ⟨F, rfl⟩ := Int.eq_ofNat_of_zero_le (show 0 ≤ f by omega)
      by_cases hF : D.S.length < F
      · rw [bad (ref_two (.inl (by simp [hasS]; omega)))]
        clear bad
        go_enter Try.func41, Try.ntmps41
        go_wp2_with (first | (go_at_call 59; refine (unhide HW).mono ?_; rintro e w' ⟨rfl, rfl⟩))
        go_ret
        exact ⟨rfl, h, Kept.refl _ _⟩
      · by_cases hlast : (D.S.length : Int) - F < n
        · rw [bad (ref_two (.inl (by simp [hasS]; omega)))]
          clear bad
          go_enter Try.func41, Try.ntmps41
          go_wp2_with (first | (go_at_call 59; refine (unhide HW).mono ?_; rintro e w' ⟨rfl, rfl⟩))
          go_ret
          exact ⟨rfl, h, Kept.refl _ _⟩
        · have hS : hasS D.S.length (F : Int) L.length = true := by simp [hasS]; omega
          obtain ⟨k0, rfl⟩ := Int.eq_ofNat_of_zero_le (hasN_true hx).1
          have hkN : k0 < D.N := by have := (hasN_true hx).2; omega
          have hck := h.epoch k0 hkN
          have hkI : (k0 : Int) < D.N := by omega
          clear bad
          by_cases hfen : ep < D.ep k0
          · have hU : D.write k0 ep F L = (8, D) := by
              have : D.ref k0 ep true = 8 := by simp [Dev.ref, hx, he0, he1, hfen]
              simp only [Dev.write, hS, this]; rfl
            rw [hU]
            clear hU
            go_enter Try.func41, Try.ntmps41
            go_wp2_with (first | (go_at_call 59; refine (unhide HW).mono ?_; rintro e w' ⟨rfl, rfl⟩))
            go_ret
            exact ⟨rfl, h, Kept.refl _ _⟩
          · have hr0 : D.ref k0 ep true = 0 := by simp [Dev.ref, hx, he0, he1]; omega
            have hU : D.write k0 ep F L = (0, D.rputs F L) := by simp [Dev.write, hS, hr0, rputs_eq]
            rw [hU]
            have hD0 := hide h
            clear hU hr0 hS
            go_enter Try.func41, Try.ntmps41
            go_wp2_with (first | (go_at_call 59; refine (unhide HW).mono ?_; rintro e w' ⟨rfl, rfl⟩))
            clear HW hck c0 c1 c2 c3 c4 cf hb hec hkN hkI
            go_loopw [11] (fun i wr => ∃ (k : Nat) (Dk : Dev), k ≤ n ∧ i = .int .i64 k ∧ Hid (Rv wr r sg eg Dk) ∧ Dk.S.length = D.S.length ∧ Hid (Dk.rputs (F + k) (L.drop k) = D.rputs F L) ∧ Hid (Kept [r, sg] w' wr)) (fun i _ => n - (intOf i).toNat)
            case atStart => exact ⟨0, D, by omega, rfl, hD0, rfl, rfl, Kept.refl _ _⟩
            case round =>
              obtain ⟨k, Dk, hkn, rfl, hDk, hSk, hPk, hKk⟩ := hrel
              by_cases hlt' : k < n
              · obtain ⟨s, hs⟩ : ∃ s, L[k]? = some s := ⟨_, List.getElem?_eq_getElem (by omega)⟩
                have hsec : Sec s := hL.sec s (List.mem_of_getElem? hs)
                obtain ⟨hb, off, rfl, hr⟩ := hL.lies (by intro e; simp [e] at hlen; omega)
                have hrk := hr k (by omega)
                have hgs : L[k]'(by omega) = s := by have := List.getElem?_eq_getElem (l := L) (i := k) (by omega); rw [this] at hs; simpa using hs
                rw [hgs] at hrk
                have hrr : wr.rangeAt hb (off + k * 64) (u8s s) := fun j v hj => (unhide hKk).cell (hrk j v hj) (hA hb off rfl)
                have hAw := hA hb off rfl
                have hdrop : L.drop k = s :: L.drop (k + 1) := by rw [List.drop_eq_getElem_cons (by omega), hgs]
                have hPs := unhide hPk
                rw [hdrop, Dev.rputs] at hPs
                have HDo := hide (r_does r sg eg Dk wr (unhide hDk))
                have hs3 := does_S Dk
                clear hr hrk hdrop hgs
                cases hd : Dk.does.2 with
                | true =>
                  rw [hd] at HDo
                  rw [hd, if_pos rfl] at hPs
                  have HPs := hide hPs
                  clear hPs hPk hs
                  go_wp2_with fail
                  refine (unhide HDo).mono ?_
                  rintro e w1 ⟨rfl, hd1, hk1⟩
                  obtain ⟨m, hm⟩ : ∃ m, m = F + k := ⟨_, rfl⟩
                  have hmI : (m : Int) < D.S.length := by omega
                  have hp := hide (hd1.drew.putS (k := m) (s := s) (by rw [hs3.1, hSk]; omega) hsec)
                  rw [hs3.1] at hp
                  obtain ⟨cap', ecap', c0', _, _, _, _, _, hb', _⟩ := hd1.cells
                  have hth := hb'.there hd1.ok.sec m (by rw [hs3.1, hSk]; omega)
                  rw [hs3.1, hSk] at c0'
                  have hrt : w1.rangeAt hb (off + k * 64) (u8s s) := fun j v hj => hk1.cell (hrr j v hj) (by simp at hAw ⊢; exact hAw.1)
                  have hkk : Hid (Kept [r, sg] w' w1) := (unhide hKk).trans (hk1.mono (by simp))
                  have hu := Try.underlying38
                  have hu8 : (u8s s).length = 64 := by rw [u8s_len, hsec.1]
                  have hsz : (Try.prog.info? 38).map (·.size) = some (u8s s).length := by rw [hu8]; exact Try.info38
                  have hone := u8s_one s
                  have hrsg := hd1.ne.1
                  have n0 : hb ≠ sg := by simp at hAw; exact hAw.2
                  have hwr : IntKind.i64.wrap ((F : Int) + (k : Int)) = (m : Int) := by rw [IntKind.wrap_i64]; omega
                  have hm0 : (0 : Int) ≤ (m : Int) := by omega
                  have hk0 : (0 : Int) ≤ (k : Int) := by omega
                  have hkI : (k : Int) < (n : Int) := by omega
                  have hsl : Dk.does.1.S.length = D.S.length := by rw [hs3.1, hSk]
                  have Hm := hide hm
                  clear HDo hrr hb' hAw hm
                  go_wp2_with fail
                  go_region_held3 (fun w' => w'.cell? ⟨r, 0, none⟩ = some (.slice (some ⟨sg, 0, none⟩) D.S.length cap') ∧ w'.rangeAt hb (off + k * 64) (u8s s) ∧ w'.there sg (m * 64) 64)
                    (first | (go_keep_ranges; done) | (go_keep; done) | (go_split_ands; simp only [World.rangeAt_drew, World.there_drew] at *; refine ⟨cell_sets_ne hrsg (by assumption), World.rangeAt_setCells_apart (by assumption) _ _ _ (.inl n0), World.there_setCells (by assumption) _ _ _⟩)) (fail)
                  all_goals go_wp2_with fail
                  go_roundw
                  case rel =>
                    refine ⟨k + 1, _, by omega, by go_num, hp, by simp [hSk], ?_, (unhide hkk).drew.setCells _ _ (by simp)⟩
                    rw [unhide Hm, ← Nat.add_assoc]
                    exact HPs
                  case measure => simp [intOf]; omega
                | false =>
                  rw [hd] at HDo
                  rw [hd, if_neg (by simp)] at hPs
                  have HPs := hide hPs
                  clear hPs hPk hs
                  go_wp2_with (go_at_call 60; refine (unhide HDo).mono ?_; rintro e w1 ⟨rfl, hd1, hk1⟩)
                  go_roundw
                  case rel => exact ⟨k + 1, _, by omega, by go_num, hd1, by rw [hs3.1]; exact hSk, by rw [← Nat.add_assoc]; exact HPs, (unhide hKk).trans (hk1.mono (by simp))⟩
                  case measure => simp [intOf]; omega
              · go_wp2_with fail
                go_ret
                have : L.drop k = [] := List.drop_eq_nil_of_le (by omega)
                have hp := unhide hPk
                rw [this] at hp
                simp only [Dev.rputs] at hp
                exact ⟨rfl, hp ▸ unhide hDk, unhide hKk⟩
  · obtain ⟨hw2, hno⟩ := who_two hw0
    rw [bad (ref_two (.inr hno))]
    have HW := hide (who_is r sg eg D x ep _ h 2 hw2)
    clear bad hw0 hw2
    go_enter Try.func41, Try.ntmps41
    go_wp2_with (first | (go_at_call 59; refine (unhide HW).mono ?_; rintro e w' ⟨rfl, rfl⟩))
    go_ret
    exact ⟨rfl, h, Kept.refl _ _⟩

end Go.Proofs.Ytffflafalffifaa
