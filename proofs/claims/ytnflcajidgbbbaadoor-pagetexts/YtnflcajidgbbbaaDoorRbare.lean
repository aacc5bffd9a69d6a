/-
  The walks of the document's Bare and Text.
-/
import Derived.Test.YtnflcajidgbbbaaDoorRword
import Derived.Test.YtnflcajidgbbbaaDoorMay
namespace Go.Proofs.YtnflcajidgbbbaaDoor
open Go.RowKit

/-- A slice of bytes: none, or a row from a block's first cell on. -/
def Sl (w : World) (v : Value) (l : List Int) : Prop := (v = .slice none 0 0 ∧ l = []) ∨ ∃ g cap, v = .slice (some ⟨g, 0, none⟩) l.length cap ∧ w.rangeAt g 0 (u8s l)
theorem Sl.of_own {W : World} {base : Nat} {v : Value} {l : List Int} (h : W.ownsRow base 5 1 v l.length (u8s l)) : Sl W v l := by
  rcases own_range h with ⟨h1, h2⟩ | ⟨g, cap, h1, h2⟩
  · exact .inl ⟨h1, List.length_eq_zero_iff.1 h2⟩
  · exact .inr ⟨g, cap, h1, h2⟩
theorem Sl.kept {W W' : World} {v : Value} {l : List Int} (h : Sl W v l) (hk : Kept [] W W') : Sl W' v l := by
  rcases h with h | ⟨g, cap, h1, h2⟩
  · exact .inl h
  · exact .inr ⟨g, cap, h1, fun j u hj => hk.cell (h2 j u hj) (by simp)⟩
/-- The same, in a block from B on. -/
def SlB (B : Nat) (w : World) (v : Value) (l : List Int) : Prop := (v = .slice none 0 0 ∧ l = []) ∨ ∃ g cap, B ≤ g ∧ v = .slice (some ⟨g, 0, none⟩) l.length cap ∧ w.rangeAt g 0 (u8s l)
theorem SlB.of_own {W : World} {base : Nat} {v : Value} {l : List Int} (h : W.ownsRow base 5 1 v l.length (u8s l)) : SlB base W v l := by
  rcases own_range h with ⟨h1, h2⟩ | ⟨g, cap, h1, h2⟩
  · exact .inl ⟨h1, List.length_eq_zero_iff.1 h2⟩
  · exact .inr ⟨g, cap, own_kind h g (by rw [h1]; rfl), h1, h2⟩
theorem SlB.sl {B : Nat} {W : World} {v : Value} {l : List Int} (h : SlB B W v l) : Sl W v l := by
  rcases h with h | ⟨g, cap, _, h1, h2⟩
  · exact .inl h
  · exact .inr ⟨g, cap, h1, h2⟩
theorem SlB.kept {B : Nat} {W W' : World} {v : Value} {l : List Int} (h : SlB B W v l) (hk : Kept [] W W') : SlB B W' v l := by
  rcases h with h | ⟨g, cap, h0, h1, h2⟩
  · exact .inl h
  · exact .inr ⟨g, cap, h0, h1, fun j u hj => hk.cell (h2 j u hj) (by simp)⟩
set_option maxRecDepth 100000 in
theorem word_zero (g cap : Nat) (w : World) : Calls Tryd.prog 36 #[.slice (some ⟨g, 0, none⟩) 0 cap] w fun e w' => e = .returned (strV [37]) ∧ Kept [] w w' := by
  go_enter Tryd.func36, Tryd.ntmps36
  go_wp2_with fail
  go_ret
  exact ⟨rfl, Kept.refl _ _⟩
/-- What Word tells. -/
def wordL (l : List Int) : List Int := if l = [] then [37] else escs l
theorem word_sl {w : World} {v : Value} {l : List Int} (h : Sl w v l) (hb : ∀ x ∈ l, 0 ≤ x ∧ x < 256) (hl : l.length ≤ 9000) : Calls Tryd.prog 36 #[v] w fun e w' => e = .returned (strV (wordL l)) ∧ Kept [] w w' := by
  rcases h with ⟨rfl, rfl⟩ | ⟨g, cap, rfl, h2⟩
  · exact word_nil w
  · unfold wordL
    by_cases h0 : l = []
    · subst h0
      exact word_zero g cap w
    · rw [if_neg h0]
      exact word36 g l.length cap l hb rfl (List.length_pos_iff.2 h0) hl w h2

set_option maxHeartbeats 2000000 in
set_option maxRecDepth 100000 in
theorem bare37 (s : List Int) (hs : Byts 96 s) (w : World) : Calls Tryd.prog 37 #[aggV (u8s s)] w fun e w' => ∃ v, e = .returned v ∧ Sl w' v (bare s) ∧ Kept [] w w' := by
  have b0 : Hid (Blk (w.alloc (.cells (u8s s).toArray 23)) w.heap.size 23 (u8s s)) := Blk.new w 23 _
  have hk : Hid (Kept [] w (w.alloc (.cells (u8s s).toArray 23))) := (Kept.refl _ _).alloc _
  go_enter Tryd.func37, Tryd.ntmps37
  go_wp2_with (refine wpBoxA rfl (.tmp 0) rfl (u8s s) rfl ?_)
  generalize (w.alloc (.cells (u8s s).toArray 23)) = W at *
  go_loopw [3] (fun v wr => ∃ m : Nat, m ≤ 96 ∧ v = .int .i64 m ∧ Hid (bareN s m = bareN s 96) ∧ wr = W) (fun v _ => (intOf v).toNat)
  case atStart => exact ⟨96, Nat.le_refl _, rfl, rfl, rfl⟩
  case round =>
    obtain ⟨M, hM, rfl, hB, rfl⟩ := hrel
    have RB := b0
    have RK := hk
    clear b0 hk
    cases M with
    | zero =>
      have HM : Hid (bareN s 96 = 0) := by rw [← unhide hB]; rfl
      clear hB
      go_wp2_with fail
      go_loopw [5, 4] (fun i v wr => ∃ k : Nat, k ≤ 0 ∧ i = .int .i64 k ∧ wr.ownsRow (w.heap.size + 1) 5 1 v (s.take k).length (u8s (s.take k)) ∧ Hid (Blk wr w.heap.size 23 (u8s s)) ∧ Hid (Kept [] w wr)) (fun i _ _ => 0 - (intOf i).toNat)
      case atStart => exact ⟨0, by omega, rfl, World.ownsRow_nil _ _ _ _, RB, RK⟩
      case round =>
        clear RB RK
        obtain ⟨k, hk2, rfl, hown, RB, RK⟩ := hrel
        by_cases hlt : k < 0
        · omega
        · obtain rfl : k = 0 := by omega
          have hS : Hid (Sl wr u4 (bare s)) := by
            show Sl _ _ _
            rw [bare, hs.len, unhide HM]
            exact Sl.of_own hown
          clear hown
          go_wp2_with fail
          refine bodyPost_ret (results_tmp rfl _ _ _) rfl ⟨u4, by rfl, unhide hS, unhide RK⟩
    | succ m =>
      obtain ⟨y, hye⟩ : ∃ y, s.getD m 0 = y := ⟨_, rfl⟩
      have hy : wr.cell? ⟨w.heap.size, m, none⟩ = some (.int .u8 y) := fits_cell (unhide RB) m _ (by rw [← hye]; simp [u8s, List.getD, show m < s.length by rw [hs.len]; omega])
      have h1 : ((m : Int) + 1 - 1) = m := by omega
      have hY := hide hye
      clear hye
      by_cases h0 : y = 0
      · subst h0
        have hN : Hid (bareN s m = bareN s 96) := by rw [← unhide hB, bareN, if_pos (unhide hY)]; rfl
        go_wp2_with fail
        go_roundw
        case rel => exact ⟨m, by omega, by go_num, hN, trivial⟩
        case measure => simp [intOf]
      · have hd : (y == 0) = false := by simpa using h0
        have HM : Hid (bareN s 96 = m + 1) := by show _ = _; rw [← unhide hB, bareN, if_neg (by rw [unhide hY]; exact h0)]
        clear hB hY h0
        go_wp2_with fail
        clear hy hd h1
        generalize m + 1 = M at *
        go_loopw [5, 4] (fun i v wr => ∃ k : Nat, k ≤ M ∧ i = .int .i64 k ∧ wr.ownsRow (w.heap.size + 1) 5 1 v (s.take k).length (u8s (s.take k)) ∧ Hid (Blk wr w.heap.size 23 (u8s s)) ∧ Hid (Kept [] w wr)) (fun i _ _ => M - (intOf i).toNat)
        case atStart => exact ⟨0, by omega, rfl, World.ownsRow_nil _ _ _ _, RB, RK⟩
        case round =>
          clear RB RK
          obtain ⟨k, hk2, rfl, hown, RB, RK⟩ := hrel
          by_cases hlt : k < M
          · have hkl : k < s.length := by rw [hs.len]; omega
            have htk : s.take (k + 1) = s.take k ++ [s[k]] := List.take_succ_eq_append_getElem hkl
            obtain ⟨x, ex⟩ : ∃ x, s[k] = x := ⟨_, rfl⟩
            have q : wr.cell? ⟨w.heap.size, k, none⟩ = some (.int .u8 x) := fits_cell (unhide RB) k _ (by simp [u8s, hkl, ex])
            rw [ex] at htk
            have HT := hide htk
            have hel2 : (s.take k).length ≤ 96 := by rw [List.length_take]; omega
            have hbase : w.heap.size + 1 ≤ wr.heap.size := (unhide RB).lt
            clear htk ex
            go_wp2_with (at_builtin; go_must (refine wpAppN rfl (.tmp 22) (.tmp 26) rfl (w.heap.size + 1) _ (s.take k) rfl wr.heap.size 1 [x] rfl (Blk.new' rfl) rfl (owns_kept hown ((Kept.refl _ _).alloc _)) (by omega) (by simp; omega) ?_))
            intro v1 w1 hown1 hg1
            have hg2 : wr.grownBy w1 u4.ownBlock := grownBy_trans (World.grownBy_alloc _ _ _) hg1
            have RK1 : Hid (Kept [] w w1) := kept_own (unhide RK) hg2 hown (by omega)
            have RB1 : Hid (Blk w1 w.heap.size 23 (u8s s)) := by
              show _ = _
              rw [hg2.block _ hbase (fun e => by have := own_kind hown _ e.symm; omega)]
              exact unhide RB
            clear hg1 hg2 hown RK RB q
            go_wp2_with fail
            go_roundw
            case rel =>
              refine ⟨k + 1, by omega, by go_num, ?_, RB1, RK1⟩
              rw [unhide HT, show (s.take k ++ [x]).length = min k s.length + 1 by simp]
              exact hown1
            case measure => simp [intOf]; omega
          · obtain rfl : k = M := by omega
            have hS : Hid (Sl wr u4 (bare s)) := by
              show Sl _ _ _
              rw [bare, hs.len, unhide HM]
              exact Sl.of_own hown
            clear hown
            go_wp2_with fail
            refine bodyPost_ret (results_tmp rfl _ _ _) rfl ⟨u4, by rfl, unhide hS, unhide RK⟩

theorem word_bare (s : List Int) : wordL (bare s) = textL s := by
  unfold wordL textL
  have hl : (bare s).length = bareN s s.length := by unfold bare; rw [List.length_take]; have := bareN_le s s.length; omega
  by_cases h : bareN s s.length = 0
  · rw [if_pos h, if_pos (List.length_eq_zero_iff.1 (hl.trans h))]
  · rw [if_neg h, if_neg (fun e => h (by rw [← hl, e]; rfl))]
theorem bare_byte {s : List Int} {n : Nat} (hs : Byts n s) : ∀ x ∈ bare s, 0 ≤ x ∧ x < 256 := fun x hx => hs.byte x (List.mem_of_mem_take hx)
theorem bare_len {s : List Int} (hs : Byts 96 s) : (bare s).length ≤ 96 := by unfold bare; rw [List.length_take, hs.len]; omega
theorem word_of {w : World} {v : Value} {s : List Int} (hs : Byts 96 s) (h : Sl w v (bare s)) : Calls Tryd.prog 36 #[v] w fun e w' => e = .returned (strV (textL s)) ∧ Kept [] w w' := by
  have := word_sl h (bare_byte hs) (by have := bare_len hs; omega)
  rw [word_bare s] at this
  exact this

set_option maxHeartbeats 1000000 in
set_option maxRecDepth 100000 in
theorem rtext22 (s : List Int) (hs : Byts 96 s) (w : World) : Calls Tryd.prog 22 #[aggV (u8s s)] w fun e w' => e = .returned (strV (textL s)) ∧ Kept [] w w' := by
  have hsu : (u8s s).length = 96 := by rw [u8s_len, hs.len]
  go_enter Tryd.func22, Tryd.ntmps22
  go_wp2_with (
    first
    | (refine wpBoxV 1 (by rfl) (by rfl) (.tmp 0) (by rfl) (u8s s) (by rfl) ?_
       intro W1 b1 hb1 B1 K1
       have RB := hide B1
       have RK := hide K1
       clear hb1 B1 K1)
    | (refine wpLoadA row23 (by rfl) (.tmp 1) (by rfl) b1 0 (by rfl) (u8s s) hsu (unhide RB).range ?_))
  refine (bare37 s hs _).mono ?_
  rintro e w1 ⟨v, rfl, hv, k1⟩
  have HV := hide hv
  replace RK := hide ((unhide RK).trans k1)
  clear hv k1
  go_wp2_with fail
  refine (word_of hs (unhide HV)).mono ?_
  rintro e w2 ⟨rfl, k2⟩
  replace RK := hide ((unhide RK).trans k2)
  clear k2
  go_wp2_with fail
  go_ret
  exact ⟨rfl, unhide RK⟩

end Go.Proofs.YtnflcajidgbbbaaDoor
