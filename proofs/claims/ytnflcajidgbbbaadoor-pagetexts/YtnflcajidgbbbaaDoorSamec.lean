/-
  Body is the document's Body; the body of a body's text is the body.
-/
import Derived.Test.YtnflcajidgbbbaaDoorSameb
namespace Go.Proofs.YtnflcajidgbbbaaDoor
open Go.RowKit

theorem bareN_zs (b : List Int) (k : Nat) : ∀ j, j ≤ k → bareN (b ++ zs k) (b.length + j) = bareN (b ++ zs k) b.length
  | 0, _ => rfl
  | j + 1, hj => by
    rw [← Nat.add_assoc, bareN, if_pos, bareN_zs b k j (by omega)]
    rw [List.getD, List.getElem?_append_right (by omega), Nat.add_sub_cancel_left]
    simp [zs, show j < k by omega]
theorem bareN_last {b r : List Int} (hz : b = [] ∨ b.getD (b.length - 1) 1 ≠ 0) : bareN (b ++ r) b.length = b.length := by
  by_cases h0 : b = []
  · subst h0; rfl
  · have hz := hz.resolve_left h0
    obtain ⟨m, hm⟩ : ∃ m, b.length = m + 1 := ⟨b.length - 1, by have := List.length_pos_iff.2 h0; omega⟩
    rw [hm, Nat.add_sub_cancel] at hz
    rw [hm, bareN, if_neg]
    rw [List.getD, List.getElem?_append_left (by omega)]
    rw [List.getD, List.getElem?_eq_getElem (by omega)] at hz
    rw [List.getElem?_eq_getElem (by omega)]
    simpa using hz
theorem bare_pad {b : List Int} (hl : b.length ≤ 96) (hz : b = [] ∨ b.getD (b.length - 1) 1 ≠ 0) : bareN (pad b) (pad b).length = b.length ∧ bare (pad b) = b := by
  have h1 : bareN (pad b) (pad b).length = b.length := by
    rw [pad_len hl]
    have := bareN_zs b (96 - b.length) (96 - b.length) (Nat.le_refl _)
    rw [show b.length + (96 - b.length) = 96 by omega] at this
    unfold pad
    rw [this, bareN_last hz]
  refine ⟨h1, ?_⟩
  rw [bare, h1, pad, List.take_left]
theorem bareN_nz (s : List Int) : ∀ m, bareN s m = 0 ∨ s.getD (bareN s m - 1) 0 ≠ 0
  | 0 => .inl rfl
  | m + 1 => by
    unfold bareN
    split
    · exact bareN_nz s m
    · next h => right; simpa using h
theorem bareN_rest (s : List Int) : ∀ m i, bareN s m ≤ i → i < m → s.getD i 0 = 0
  | 0, _, _, h => absurd h (by omega)
  | m + 1, i, h1, h2 => by
    unfold bareN at h1
    split at h1
    · next h =>
      by_cases e : i = m
      · subst e; exact h
      · exact bareN_rest s m i h1 (by omega)
    · omega
theorem bare_length (s : List Int) : (bare s).length = bareN s s.length := by unfold bare; rw [List.length_take]; have := bareN_le s s.length; omega
theorem bare_last (s : List Int) : bare s = [] ∨ (bare s).getD ((bare s).length - 1) 1 ≠ 0 := by
  by_cases h0 : bare s = []
  · exact .inl h0
  · right
    have hl := bare_length s
    have hpos : 0 < (bare s).length := List.length_pos_iff.2 h0
    have hle := bareN_le s s.length
    have := (bareN_nz s s.length).resolve_left (by omega)
    rw [hl, List.getD, show bare s = s.take (bareN s s.length) from rfl, List.getElem?_take_of_lt (by omega), List.getElem?_eq_getElem (by omega)]
    rw [List.getD, List.getElem?_eq_getElem (by omega)] at this
    exact this
theorem pad_bare {s : List Int} (hs : Byts 96 s) : pad (bare s) = s := by
  have hl := bare_length s
  have hle := bareN_le s s.length
  have hr := bareN_rest s s.length
  have hb : bare s = s.take (bareN s s.length) := rfl
  generalize bareN s s.length = n at *
  rw [hs.len] at hle hr
  apply List.ext_getElem?
  intro i
  unfold pad
  by_cases h1 : i < n
  · rw [List.getElem?_append_left (by omega), hb, List.getElem?_take_of_lt h1]
  · rw [List.getElem?_append_right (by omega), hl]
    by_cases h2 : i < 96
    · have h0 := hr i (by omega) h2
      rw [List.getD, List.getElem?_eq_getElem (by rw [hs.len]; exact h2)] at h0
      rw [List.getElem?_eq_getElem (l := s) (by rw [hs.len]; exact h2), show s[i]'(by rw [hs.len]; exact h2) = 0 from h0]
      rw [zs, List.getElem?_replicate, if_pos (by omega)]
    · rw [List.getElem?_eq_none (show s.length ≤ i by rw [hs.len]; omega)]
      rw [zs, List.getElem?_replicate, if_neg (by omega)]
theorem rok_some {L b : List Int} (h37 : L ≠ [37]) (hu : unw L = some b) : rok L = decide (b ≠ [] ∧ escs b = L) := by rw [rok, if_neg h37, hu]
theorem rok_none {L : List Int} (h37 : L ≠ [37]) (hu : unw L = none) : rok L = false := by rw [rok, if_neg h37, hu]
theorem meant_37 : meantL [37] = [] := by simp [meantL]
theorem text_pad {b : List Int} (h0 : b ≠ []) (hl : b.length ≤ 96) (hz : b.getD (b.length - 1) 1 ≠ 0) : textL (pad b) = escs b := by
  obtain ⟨h1, h2⟩ := bare_pad hl (.inr hz)
  unfold textL
  rw [h1, h2, if_neg (by have := List.length_pos_iff.2 h0; omega)]
theorem text_nil : textL (pad []) = [37] := by
  have h1 := (bare_pad (b := []) (by simp) (.inl rfl)).1
  unfold textL
  rw [h1]
  rfl
theorem unw_byte : ∀ (l : List Int), (∀ x ∈ l, 0 ≤ x ∧ x < 256) → ∀ b, unw l = some b → ∀ x ∈ b, 0 ≤ x ∧ x < 256
  | [], _, b, hb => by simp [unw] at hb; subst hb; simp
  | [c], h, b, hb => by
    unfold unw at hb
    split at hb
    · cases hb
    · cases hb; exact h
  | [c, d], h, b, hb => by
    unfold unw at hb
    split at hb
    · cases hb
    · obtain ⟨y, hy, rfl⟩ := Option.map_eq_some_iff.1 hb
      intro x hx
      rcases List.mem_cons.1 hx with rfl | hx
      · exact h x (by simp)
      · exact unw_byte [d] (fun z hz => h z (List.mem_cons_of_mem _ hz)) y hy x hx
  | c :: d :: e :: t, h, b, hb => by
    unfold unw at hb
    split at hb
    · split at hb
      · cases hb
      · next hr =>
        obtain ⟨y, hy, rfl⟩ := Option.map_eq_some_iff.1 hb
        intro x hx
        rcases List.mem_cons.1 hx with rfl | hx
        · have := rdig_byte d; have := rdig_byte e; omega
        · exact unw_byte t (fun z hz => h z (by simp [hz])) y hy x hx
    · obtain ⟨y, hy, rfl⟩ := Option.map_eq_some_iff.1 hb
      intro x hx
      rcases List.mem_cons.1 hx with rfl | hx
      · exact h x (by simp)
      · exact unw_byte (d :: e :: t) (fun z hz => h z (List.mem_cons_of_mem _ hz)) y hy x hx

theorem same_body {L : List Int} (hL : ∀ x ∈ L, 0 ≤ x ∧ x < 256) : rbodyL L = bodyL L := by
  unfold rbodyL bodyL
  by_cases h1 : 288 < L.length
  · rw [if_pos h1, if_pos h1]
  rw [if_neg h1, if_neg h1]
  by_cases h37 : L = [37]
  · subst h37
    rw [if_neg (by simp [rok, rbytes]), meant_37, if_neg (by simp), if_pos text_nil]
    rfl
  have eB : rbytes L = (unw L).getD [] := by rw [rbytes, if_neg h37]
  by_cases hok : 96 < (meantL L).length ∨ textL (pad (meantL L)) ≠ L
  · have e2 : (if 96 < (meantL L).length then ((zs 96, 4) : List Int × Int) else if textL (pad (meantL L)) = L then (pad (meantL L), 0) else (zs 96, 4)) = (zs 96, 4) := by
      by_cases h : 96 < (meantL L).length
      · rw [if_pos h]
      · rw [if_neg h, if_neg (hok.resolve_left h)]
    rw [e2, if_pos]
    by_cases hr : rok L = false
    · exact .inl hr
    right
    cases hu : unw L with
    | none => exact absurd (rok_none h37 hu) hr
    | some b =>
      rw [hu] at eB
      have hrt : rok L = true := by simpa using hr
      have hb : b ≠ [] ∧ escs b = L := of_decide_eq_true ((rok_some h37 hu).symm.trans hrt)
      have hbb := unw_byte L hL b hu
      have hm : meantL L = b := by rw [← hb.2]; exact meant_escs b hbb
      rw [eB, Option.getD_some]
      by_cases h9 : 96 < b.length
      · exact .inl h9
      right
      rw [hm] at hok
      have hne := hok.resolve_left h9
      exact Classical.byContradiction fun hz => hne (by rw [text_pad hb.1 (by omega) hz, hb.2])
  · have hle : ¬ 96 < (meantL L).length := fun h => hok (.inl h)
    have ht : textL (pad (meantL L)) = L := Classical.byContradiction fun h => hok (.inr h)
    rw [if_neg hle, if_pos ht]
    have hmb := meant_byte L hL
    have hpb := pad_byts (show (meantL L).length ≤ 96 by omega) hmb
    have hn0 : ¬ bareN (pad (meantL L)) (pad (meantL L)).length = 0 := by
      intro h
      unfold textL at ht
      rw [if_pos h] at ht
      exact h37 ht.symm
    have hE : escs (bare (pad (meantL L))) = L := by
      unfold textL at ht
      rw [if_neg hn0] at ht
      exact ht
    have hbb := bare_byte hpb
    have hm : meantL L = bare (pad (meantL L)) := by
      have := meant_escs _ hbb
      rw [hE] at this
      exact this
    have hu : unw L = some (bare (pad (meantL L))) := by
      have := unw_escs _ hbb
      rw [hE] at this
      exact this
    rw [← hm] at hu hE
    have hb0 : meantL L ≠ [] := by
      intro h
      have := bare_length (pad (meantL L))
      rw [← hm, h] at this
      rw [h] at hn0
      exact hn0 this.symm
    have hlast := bare_last (pad (meantL L))
    rw [← hm] at hlast
    have eR := rok_some h37 hu
    rw [hu] at eB
    rw [eB, Option.getD_some, if_neg]
    rintro (h | h | h)
    · rw [h, decide_eq_true ⟨hb0, hE⟩] at eR
      cases eR
    · exact hle h
    · exact hlast.resolve_left hb0 h

theorem body_text {s : List Int} (hs : Byts 96 s) : bodyL (textL s) = (s, 0) := by
  have hbb := bare_byte hs
  have hp := pad_bare hs
  have hbl := bare_len hs
  have hm : meantL (textL s) = bare s := by
    unfold textL
    by_cases h : bareN s s.length = 0
    · rw [if_pos h, meant_37]
      have := bare_length s
      rw [h] at this
      exact (List.length_eq_zero_iff.1 this).symm
    · rw [if_neg h, meant_escs _ hbb]
  have hl : (textL s).length ≤ 288 := by
    unfold textL
    split
    · simp
    · have := (escs_len (bare s)).2
      omega
  unfold bodyL
  rw [if_neg (by omega), hm, if_neg (by omega), hp, if_pos rfl]

end Go.Proofs.YtnflcajidgbbbaaDoor
