/-
  RecordTorn: the cases are put together.
-/
import Derived.Test.YtkpkiibahfdomaaDoorTorn
namespace Go.Proofs.YtkpkiibahfdomaaDoor
open Go.RowKit

theorem torn6 (a b : Rec) (ha : a.Ok) (hb : b.Ok) (n : Int) (v : List Int) (hv : Byts 96 v) (w : World) (hF : First w) : Calls Tryd.prog 6 #[aggV (recC a), aggV (recC b), aggV (verC n v)] w fun e w' => e = .returned (.bool true) ∧ Kept [] w w' := by
  have P8a := fun w => put8 a ha.bd w
  have P8b := fun w => put8 b hb.bd w
  have la := ha.bd.len
  have lb := hb.bd.len
  have lv := hv.len
  have zz : zs 128 = zs 64 ++ zs 64 := rfl
  have hz : (zs 64).length = 64 := by simp [zs]
  have la0 := (laidR_byts (r := a) (h := 0) (by omega) ha.bd)
  have la1 := (laidR_byts (r := a) (h := 1) (by omega) ha.bd)
  have lb0 := (laidR_byts (r := b) (h := 0) (by omega) hb.bd)
  have lb1 := (laidR_byts (r := b) (h := 1) (by omega) hb.bd)
  cases hA : isRec a with
  | false =>
    have ea : putR a = (zs 64 ++ zs 64, 2) := by rw [← zz]; simp [putR, hA]
    rw [ea] at P8a
    cases hB : isRec b with
    | false =>
      have eb : putR b = (zs 64 ++ zs 64, 2) := by rw [← zz]; simp [putR, hB]
      rw [eb] at P8b
      exact torn_bad22 a b n v _ _ _ _ la lb lv hz hz hz hz P8a P8b w hF
    | true =>
      have eb : putR b = (laidR b 0 ++ laidR b 1, 0) := by simp [putR, hB]
      rw [eb] at P8b
      exact torn_bad20 a b n v _ _ _ _ la lb lv hz hz lb0.len lb1.len P8a P8b w hF
  | true =>
    have ea : putR a = (laidR a 0 ++ laidR a 1, 0) := by simp [putR, hA]
    rw [ea] at P8a
    cases hB : isRec b with
    | false =>
      have eb : putR b = (zs 64 ++ zs 64, 2) := by rw [← zz]; simp [putR, hB]
      rw [eb] at P8b
      exact torn_bad02 a b n v _ _ _ _ la lb lv la0.len la1.len hz hz P8a P8b w hF
    | true =>
      have eb : putR b = (laidR b 0 ++ laidR b 1, 0) := by simp [putR, hB]
      rw [eb] at P8b
      have P270 := fun w => Pg.stamp16 (laidR a 0) la0 w
      rw [stamp_rec a (by omega)] at P270
      have P271 := fun w => Pg.stamp16 (laidR a 1) la1 w
      rw [stamp_rec a (by omega)] at P271
      have P120 := fun w hF => takehead12 (laidR a 0) la0 w hF
      rw [take_rec a (by omega)] at P120
      have P121 := fun w hF => takehead12 (laidR a 1) la1 w hF
      rw [take_rec a (by omega)] at P121
      have P28 := fun w => Pg.whole14 a.pg (laidR a 0) (laidR a 1) la0 la1 w
      rw [page_rec a.pg a ha.bd] at P28
      have P29 := fun w => Pg.may9 n v lv w
      cases hD : recEq (withBd b a.bd) a with
      | true =>
        cases hM : Pg.mayB n v with
        | false =>
          rw [hM] at P29
          exact torn_same_no a b n v _ _ _ _ la lb lv la0.len la1.len lb0.len lb1.len P8a P8b P270 P120 P271 P121 P28 P29 hD w hF
        | true =>
          rw [hM] at P29
          by_cases hn : n = 0
          · exact torn_same_zero a b n v _ _ _ _ la lb lv la0.len la1.len lb0.len lb1.len P8a P8b P270 P120 P271 P121 P28 P29 hn hD w hF
          · have hr : 0 ≤ n ∧ n ≤ 2147483647 := by simp only [Pg.mayB, decide_eq_true_eq] at hM; omega
            have fx := Pg.fst_byts (p := a.pg) (n := n) hv
            have fy := Pg.snd_byts (p := a.pg) (n := n) hv
            have P20 := fun w => stamp20 (Pg.fstL a.pg n v) fx w
            rw [st_page fx (fst_first hn)] at P20
            have P18 := fun w => whole18 (Pg.fstL a.pg n v) (Pg.sndL a.pg n v) fx fy w
            rw [whole_first fx fy (fst_first hn) (by omega)] at P18
            exact torn_same_yes a b n v _ _ _ _ la lb lv la0.len la1.len lb0.len lb1.len P8a P8b P270 P120 P271 P121 P28 P29 hn _ _ (fun w => Pg.half_fst a.pg n v hv hr w) (fun w => Pg.half_snd a.pg n v hv hr w) P20 P18 hD w hF
      | false =>
        have hne : ¬ hdsEq a b := fun h => by rw [(recEq_hds a b).2 h] at hD; cases hD
        have Q18a := fun w => whole18 (laidR a 0) (laidR b 1) la0 lb1 w
        rw [whole_torn hA hB ha.bd hb.bd hne] at Q18a
        have Q18b := fun w => whole18 (laidR b 0) (laidR a 1) lb0 la1 w
        rw [whole_torn hB hA hb.bd ha.bd (fun h => hne h.symm)] at Q18b
        cases hM : Pg.mayB n v with
        | false =>
          rw [hM] at P29
          exact torn_other_no a b n v _ _ _ _ la lb lv la0.len la1.len lb0.len lb1.len P8a P8b P270 P120 P271 P121 P28 P29 Q18a Q18b hD w hF
        | true =>
          rw [hM] at P29
          by_cases hn : n = 0
          · exact torn_other_zero a b n v _ _ _ _ la lb lv la0.len la1.len lb0.len lb1.len P8a P8b P270 P120 P271 P121 P28 P29 Q18a Q18b hn hD w hF
          · have hr : 0 ≤ n ∧ n ≤ 2147483647 := by simp only [Pg.mayB, decide_eq_true_eq] at hM; omega
            have fx := Pg.fst_byts (p := a.pg) (n := n) hv
            have fy := Pg.snd_byts (p := a.pg) (n := n) hv
            have P20 := fun w => stamp20 (Pg.fstL a.pg n v) fx w
            rw [st_page fx (fst_first hn)] at P20
            have P18 := fun w => whole18 (Pg.fstL a.pg n v) (Pg.sndL a.pg n v) fx fy w
            rw [whole_first fx fy (fst_first hn) (by omega)] at P18
            exact torn_other_yes a b n v _ _ _ _ la lb lv la0.len la1.len lb0.len lb1.len P8a P8b P270 P120 P271 P121 P28 P29 Q18a Q18b hn _ _ (fun w => Pg.half_fst a.pg n v hv hr w) (fun w => Pg.half_snd a.pg n v hv hr w) P20 P18 hD w hF

end Go.Proofs.YtkpkiibahfdomaaDoor
