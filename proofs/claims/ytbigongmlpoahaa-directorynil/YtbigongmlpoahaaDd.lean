/-
  New: the walk.
-/
import Derived.Test.YtbigongmlpoahaaDc
namespace Go.Proofs.Ytbigongmlpoahaa.D
set_option maxRecDepth 100000
set_option linter.unusedSimpArgs false
open Go.RowKit


/-- Pages that New takes. -/
def okP (P : List Int) : Bool := P.all isP && decide P.Nodup
/-- What New tells. -/
def NewR (w : World) (P : List Int) (e : Ending) (W : World) : Prop := Kept [] w W ∧
  ((okP P = true ∧ ∃ b mb L, e = .returned (.tuple #[P0 b, .int .i64 0]) ∧ Dg 0 W b mb L ∧ L.map Lk.k = P ∧ (∀ x ∈ L, x = Lk.new x.k x.p ∧ w.heap.size ≤ x.p) ∧ w.heap.size ≤ b ∧ w.heap.size ≤ mb)
   ∨ (okP P = false ∧ e = .returned (.tuple #[.pointer none, .int .i64 2])))
theorem okP_bad {P : List Int} {j : Nat} {n : Int} (h : P[j]? = some n) (hn : isP n = false) : okP P = false := by
  have hm : n ∈ P := List.mem_of_getElem? h
  unfold okP
  rw [show P.all isP = false from List.all_eq_false.2 ⟨n, hm, by rw [hn]; decide⟩]
  rfl
theorem okP_twice {P : List Int} {j : Nat} {n : Int} (h : P[j]? = some n) (hn : n ∈ P.take j) : okP P = false := by
  unfold okP
  rw [show decide P.Nodup = false from by
    rw [decide_eq_false_iff_not]
    intro hd
    obtain ⟨i, hi⟩ := List.getElem?_of_mem hn
    have h2 := (List.getElem?_eq_some_iff.1 h).1
    rw [List.getElem?_take] at hi
    split at hi
    · have h3 := (List.getElem?_inj (by omega : i < P.length) hd (j := j)).1 (hi.trans h.symm)
      omega
    · cases hi]
  cases P.all isP <;> rfl
theorem okP_good {w W : World} {mb : Nat} {P : List Int} {L : List Lk} (h : Nw w W mb P L) : okP P = true := by
  unfold okP
  rw [List.all_eq_true.2 h.may, decide_eq_true h.nd]
  rfl
set_option maxHeartbeats 4000000 in
theorem new24 (v : Value) (P : List Int) (w : World) (h : Is w v P) (hl : P.length ≤ 1000) : Calls Try.prog 24 #[v] w (NewR w P) := by
  have HI := hide h
  have hl2 : (P.length : Int) ≤ 1000 := by omega
  clear h
  go_enter Try.func24, Try.ntmps24
  go_wp2_with (
    first
    | (refine wpMk53 rfl rfl ?_
       intro W1 mb e1 M1 K1
       have HN : Hid (Nw w W1 mb [] []) := ⟨M1, (fun x hx => by cases hx), (fun n hn => by cases hn), rfl, List.nodup_nil, List.Pairwise.nil, by omega, K1⟩
       clear e1 M1 K1
       refine Stp.go ?_))
  constructor
  go_wp2_with (
    first
    | (refine wpLen36 rfl (.tmp 8) rfl v P.length (inC P) rfl ((unhide HI).kept (unhide HN).k (fun _ _ => by simp)) ?_
       refine Stp.go ?_))
  constructor
  go_wp2_with fail
  go_loopw [10] (fun x10 wr => ∃ (j : Nat) (L : List Lk), j ≤ P.length ∧ x10 = .int .i64 j ∧ Hid (Nw w wr mb (P.take j) L)) (fun x10 _ => P.length - (intOf x10).toNat)
  case atStart => exact ⟨0, [], by omega, rfl, HN⟩
  case round =>
    clear HN
    obtain ⟨j, L, hj, rfl, HN⟩ := hrel
    by_cases hk : j < P.length
    · have hd : decide ((j : Int) < (P.length : Int)) = true := by simp; omega
      obtain ⟨n, hn⟩ : ∃ n, P[j]? = some n := ⟨_, List.getElem?_eq_getElem hk⟩
      have HJ := hide hn
      clear hn
      cases hp : isP n with
      | false =>
        have HP := hide hp
        clear hp
        go_wp2_with (
          first
          | (refine wpIdxI rfl (.tmp 8) (.tmp 10) rfl v P j n rfl rfl ((unhide HI).kept (unhide HN).k (fun _ _ => by simp)) (unhide HJ) ?_
             intro ad hc
             refine Stp.go ?_))
        constructor
        go_wp2_with (
          first
          | (go_at_call 60
             refine (isPage60 n _).mono ?_
             rw [unhide HP]
             rintro e W9 ⟨rfl, q9⟩
             replace q9 := q9.symm
             subst q9
             refine Stp.go ?_))
        constructor
        go_wp2_with fail
        go_ret2
        exact ⟨(unhide HN).k, .inr ⟨okP_bad (unhide HJ) (unhide HP), rfl⟩⟩
      | true =>
        have HP := hide hp
        clear hp
        obtain ⟨lv, hlv⟩ : ∃ x, lookV n (L.map Lk.e) = x := ⟨_, rfl⟩
        have HL := hide hlv
        cases hq : lkOf n L with
        | some y =>
          obtain rfl : lv = P0 y.p := by rw [← hlv, (look_lk n L).1, hq]
          have HT : Hid (okP P = false) := okP_twice (unhide HJ) (by rw [← (unhide HN).keys]; have h9 := lkOf_some hq; exact List.mem_map.2 ⟨y, h9.1, h9.2⟩)
          clear hlv hq
          go_wp2_with (
            first
            | (refine wpIdxI rfl (.tmp 8) (.tmp 10) rfl v P j n rfl rfl ((unhide HI).kept (unhide HN).k (fun _ _ => by simp)) (unhide HJ) ?_
               intro ad hc
               refine Stp.go ?_))
          constructor
          go_wp2_with (
            first
            | (go_at_call 60
               refine (isPage60 n _).mono ?_
               rw [unhide HP]
               rintro e W9 ⟨rfl, q9⟩
               replace q9 := q9.symm
               subst q9
               refine Stp.go ?_))
          constructor
          go_wp2_with (
            first
            | (refine wpLook1 (by rfl) (.tmp 18) (.tmp 19) rfl mb (L.map Lk.e) n _ rfl rfl (unhide HL) (unhide HN).map ?_
               refine Stp.go ?_))
          constructor
          go_wp2_with fail
          go_ret2
          exact ⟨(unhide HN).k, .inr ⟨unhide HT, rfl⟩⟩
        | none =>
          obtain rfl : lv = .pointer none := by rw [← hlv, (look_lk n L).1, hq]
          have HLK := hide hq
          clear hlv hq
          go_wp2_with (
            first
            | (refine wpIdxI rfl (.tmp 8) (.tmp 10) rfl v P j n rfl rfl ((unhide HI).kept (unhide HN).k (fun _ _ => by simp)) (unhide HJ) ?_
               intro ad hc
               refine Stp.go ?_))
          constructor
          go_wp2_with (
            first
            | (go_at_call 60
               refine (isPage60 n _).mono ?_
               rw [unhide HP]
               rintro e W9 ⟨rfl, q9⟩
               replace q9 := q9.symm
               subst q9
               refine Stp.go ?_))
          constructor
          go_wp2_with (
            first
            | (refine wpLook1 (by rfl) (.tmp 18) (.tmp 19) rfl mb (L.map Lk.e) n _ rfl rfl (unhide HL) (unhide HN).map ?_
               refine Stp.go ?_))
          constructor
          go_wp2_with (
            first
            | (go_at_call 61
               refine (new10 _).mono ?_
               rintro e W5 ⟨p, rfl, hp, hB, hK⟩
               have HPE := hide hp
               have HB := hide hB
               have HK := hide hK
               have HM5 := hide ((unhide HN).map.kept hK (by simp))
               clear hp hB hK
               refine Stp.go ?_))
          constructor
          go_wp2_with (
            first
            | (refine wpUpd rfl rfl (.tmp 23) (.tmp 24) (.tmp 25) rfl mb (L.map Lk.e) ⟨n, p⟩ rfl rfl rfl (unhide HM5) (place_none (unhide HLK)) ?_
               intro W6 M6 K6
               have HN6 := hide ((unhide HN).add (unhide HPE) (unhide HB) (unhide HK) M6 K6 (unhide HP) (unhide HLK))
               clear M6 K6 HM5
               refine Stp.go ?_))
          constructor
          go_wp2_with fail
          go_roundw
          case rel => exact ⟨j + 1, L ++ [Lk.new n p], by omega, by go_num, by rw [List.take_add_one, unhide HJ]; exact HN6⟩
          case measure => simp [intOf]; omega
    · obtain rfl : j = P.length := by omega
      have hd : decide ((P.length : Int) < (P.length : Int)) = false := by simp
      rw [List.take_length] at HN
      go_wp2_with (
        first
        | (refine wpBoxV rfl (.tmp 28) rfl [.map (some mb)] rfl ?_
           intro W2 b e2 B2 K2
           have HD : Hid (NewR w P (.returned (.tuple #[P0 b, .int .i64 0])) W2) := by
             have h2 := (unhide HN).step0 K2
             exact ⟨h2.k, .inl ⟨okP_good h2, b, mb, L, rfl, h2.dg B2, h2.keys, fun x hx => (h2.lk x hx).2, by have := (unhide HN).k.size; omega, h2.mb0⟩⟩
           clear e2 B2 K2
           refine Stp.go ?_))
      constructor
      go_wp2_with fail
      go_ret2
      exact unhide HD

end Go.Proofs.Ytbigongmlpoahaa.D
