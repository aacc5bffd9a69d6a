/-
  The iterator All: its contract.
-/
import Derived.Test.YtcfflbafclmheaaGreatDoorCq
import Derived.Test.YtcfflbafclmheaaGreatDoorCd
import Derived.Test.YtcfflbafclmheaaGreatDoorKit
import Derived.RangeFuncNested
import Derived.RangeFuncBound
import Derived.RangeFuncCalls
import Derived.RangeFuncLeaves
import Derived.Shelf.Abstract
import Derived.Shelf.RegionOpen
import Derived.OwnWalkIn
import Derived.TacticsInMore
import Derived.LoopNIn
import Derived.LoopIn

/-
  A drawn region with guards that hold; calls that are refused.
-/
namespace Go.Proofs.YtcfflbafclmheaaGreatDoor
set_option maxRecDepth 100000
set_option linter.unusedSimpArgs false
open Go.RowKit
open Le (Mm wpStoreM wpStoreM1)

def gOk (ops : Array Oper) (us : List (Option Value)) (o : Oper) : Bool := match o.guard with
  | none => true
  | some (i, b) => o.after.any (fun e => Region.binds .any e && e.on == i) && (match us[i]? with | some (some (.bool c)) => c == b | _ => false) && (match ops[i]? with | some p => p.dst.isSome | none => false)
/-- The table fits the region. -/
def okZ (ops : Array Oper) (us : List (Option Value)) : Bool := (List.range ops.size).all (fun j => match ops[j]? with
  | none => false
  | some o => gOk ops us o && o.after.all (fun e => !Region.binds .any e || decide (e.on < j)) && (List.range j).all (fun i => match ops[i]? with
    | none => false
    | some p => p.dst.isNone || p.dst != o.dst))
structure OkZ (ops : Array Oper) (us : List (Option Value)) : Prop where
  guard : ∀ (j : Nat) (o : Oper), ops[j]? = some o → gOk ops us o = true
  back : ∀ (j : Nat) (o : Oper), ops[j]? = some o → ∀ e ∈ o.after, Region.binds .any e = true → e.on < j
  apart : ∀ (i j : Nat) (p o : Oper) (t : Nat), i < j → ops[i]? = some p → ops[j]? = some o → p.dst = some t → o.dst ≠ some t
theorem okZ_spec {ops : Array Oper} {us : List (Option Value)} (h : okZ ops us = true) : OkZ ops us := by
  have hj : ∀ (j : Nat) (o : Oper), ops[j]? = some o → _ := fun j o ho => (List.all_eq_true.1 h) j (List.mem_range.2 (Array.getElem?_eq_some_iff.1 ho).1)
  refine ⟨?_, ?_, ?_⟩
  · intro j o ho
    have := hj j o ho
    simp only [ho, Bool.and_eq_true] at this
    exact this.1.1
  · intro j o ho e he hb
    have := hj j o ho
    simp only [ho, Bool.and_eq_true] at this
    have := (Array.all_eq_true_iff_forall_mem.1 this.1.2) e he
    rw [hb] at this
    simpa using this
  · intro i j p o t hij hp ho hpt hot
    have := hj j o ho
    simp only [ho, Bool.and_eq_true] at this
    have := (List.all_eq_true.1 this.2) i (List.mem_range.2 hij)
    rw [hp] at this
    simp [hpt, hot] at this
theorem wpAny_gz {ops : Array Oper} {Q : Exit → Act → World → Prop} {a0 : Act} {w0 : World} (n : Nat) (hn : ops.size = n) (us : List (Option Value)) (hok : okZ ops us = true) (hu : us.length = n)
    (hsl : ops.all (fun o => match o.dst with | none => true | some t => decide (t < a0.tmps.size)) = true) (J : Array Bool → (Nat → Value) → World → Prop) (hJ0 : J (Array.replicate n false) (fun _ => undef) w0)
    (hop : ∀ (j : Nat) (o : Oper), j < n → ops[j]? = some o → ∀ a w l vs, l.size = n → l.getD j false = false → J l vs w → (∀ t : Nat, ops.toList.all (fun p => p.dst != some t || p.after.any (fun e => Region.binds .any e && e.on == j)) = true → a.eval (.tmp t) = a0.eval (.tmp t)) →
      (∀ (i t : Nat), o.after.any (fun e => Region.binds .any e && e.on == i) = true → ops[i]?.bind (·.dst) = some t → a.eval (.tmp t) = vs i ∧ told us i (vs i)) → (∀ i : Nat, o.after.any (fun e => Region.binds .any e && e.on == i) = true → l.getD i false = true) → (∀ (i : Nat), (match ops[i]? with | none => false | some p => reaches ops j 8 p) = true → l.getD i false = false) →
      o.wp Tryz.prog a w (fun a' w' => ∃ v, a' = a.put o.dst v ∧ told us j v ∧ J (l.setIfInBounds j true) (fun i => if i = j then v else vs i) w') Q)
    (hQ : ∀ l vs w, (∀ j, j < n → l.getD j false = true) → J l vs w → (∀ j, j < n → told us j (vs j)) → Q .normal (putAll a0 ops.toList ((List.range n).map vs)) w) :
    wpAny Tryz.prog .any ops Q n (Array.replicate n false) a0 w0 := by
  subst hn
  have K := okZ_spec hok
  have hsl' : ∀ o ∈ ops, ∀ t, o.dst = some t → t < a0.tmps.size := by
    intro o ho t ht
    have := (Array.all_eq_true_iff_forall_mem.1 hsl) o ho
    rw [ht] at this
    simpa using this
  let I : Array Bool → Act → World → Prop := fun l a w => l.size = ops.size ∧ a.defers = a0.defers ∧ a.tmps.size = a0.tmps.size ∧ (∀ t, (∀ (i : Nat) (p : Oper), ops[i]? = some p → p.dst = some t → l.getD i false = false) → a.tmps[t]? = a0.tmps[t]?) ∧ (∀ (i : Nat) (p : Oper), ops[i]? = some p → l.getD i false = true → ∀ e ∈ p.after, Region.binds .any e = true → l.getD e.on false = true) ∧
    ∃ vs : Nat → Value, (∀ (j : Nat) (o : Oper) (t : Nat), ops[j]? = some o → o.dst = some t → l.getD j false = true → a.tmps[t]? = some (vs j)) ∧ (∀ j : Nat, l.getD j false = true → told us j (vs j)) ∧ J l vs w
  have hrep : ∀ j, (Array.replicate ops.size false).getD j false = false := by
    intro j
    rw [Array.getD_eq_getD_getElem?, Array.getElem?_replicate]
    split <;> rfl
  refine wpAny_inv I ?_ ?_ ops.size _ a0 w0 ⟨by simp, rfl, rfl, fun _ _ => rfl, (fun i p _ hl => by rw [hrep] at hl; cases hl), fun _ => undef, (fun j o t ho ht hl => by rw [hrep] at hl; cases hl), (fun j hl => by rw [hrep] at hl; cases hl), hJ0⟩ (by simp)
  · rintro l a w ⟨i1, i2, i3, i4, i8, vs, i5, i7, i6⟩ j hj
    obtain ⟨hjl, o, ho, hdeps⟩ := mem_ready.1 hj
    have hjs : j < ops.size := (Array.getElem?_eq_some_iff.1 ho).1
    have hjf : l.getD j false = false := by
      simp only [Array.getD_eq_getD_getElem?] at hjl ⊢
      rw [Array.getElem?_eq_getElem (by omega)] at hjl ⊢
      simpa using hjl
    have hdep : ∀ i : Nat, o.after.any (fun e => Region.binds .any e && e.on == i) = true → l.getD i false = true := by
      intro i hi
      obtain ⟨k, hk, hb⟩ := Array.any_eq_true.1 hi
      have he := Array.getElem_mem hk
      obtain ⟨e, hee⟩ : ∃ e, o.after[k] = e := ⟨_, rfl⟩
      rw [hee] at hb he
      simp only [Bool.and_eq_true, beq_iff_eq] at hb
      have := hdeps e he hb.1
      rwa [hb.2] at this
    have hin : ∀ (i s : Nat), o.after.any (fun e => Region.binds .any e && e.on == i) = true → ops[i]?.bind (·.dst) = some s → a.eval (.tmp s) = vs i ∧ told us i (vs i) := by
      intro i s hi hs
      cases hq : ops[i]? with
      | none => rw [hq] at hs; cases hs
      | some p =>
        rw [hq] at hs
        have hv := i5 i p s hq hs (hdep i hi)
        exact ⟨by simp [Act.eval, Array.getD_eq_getD_getElem?, hv], i7 i (hdep i hi)⟩
    have next : ∀ v w', told us j v → J (l.setIfInBounds j true) (fun i => if i = j then v else vs i) w' → I (l.setIfInBounds j true) (a.put o.dst v) w' := by
      intro v w' hv hJ
      refine ⟨by simp [i1], by rw [put_defers]; exact i2, by rw [put_size]; exact i3, ?_, ?_, _, ?_, ?_, hJ⟩
      · intro s hs
        have hns : o.dst ≠ some s := by
          intro e
          have := hs j o ho e
          rw [getD_setD (by omega), if_pos rfl] at this
          cases this
        rw [put_other _ _ _ _ hns]
        refine i4 s fun i p hp hd => ?_
        have := hs i p hp hd
        rw [getD_setD (by omega)] at this
        split at this
        · cases this
        · exact this
      · intro i p hp hl e he hb
        rw [getD_setD (by omega)] at hl ⊢
        by_cases hij : i = j
        · subst hij
          rw [ho] at hp; cases hp
          rw [hdeps e he hb]
          split <;> rfl
        · rw [if_neg hij] at hl
          rw [i8 i p hp hl e he hb]
          split <;> rfl
      · intro i p s hp hs hl
        rw [getD_setD (by omega)] at hl
        by_cases hij : i = j
        · subst hij
          rw [ho] at hp; cases hp
          simp only [if_true]
          rw [hs]
          exact put_same _ _ _ (by rw [i3]; exact hsl' o (Array.mem_of_getElem? ho) s hs)
        · rw [if_neg hij] at hl
          simp only [if_neg hij]
          rw [put_other _ _ _ _ (by
            rcases Nat.lt_or_gt_of_ne hij with h | h
            · exact K.apart i j p o s h hp ho hs
            · exact fun e => K.apart j i o p s h ho hp e hs)]
          exact i5 i p s hp hs hl
      · intro i hl
        rw [getD_setD (by omega)] at hl
        by_cases hij : i = j
        · subst hij
          simp only [if_true]
          exact hv
        · rw [if_neg hij] at hl
          simp only [if_neg hij]
          exact i7 i hl
    unfold wpOp
    rw [ho]
    simp only
    have hout : ∀ s : Nat, ops.toList.all (fun p => p.dst != some s || p.after.any (fun e => Region.binds .any e && e.on == j)) = true → a.eval (.tmp s) = a0.eval (.tmp s) := by
      intro s hs
      have := i4 s (fun i p hp e => by
        have h1 := (List.all_eq_true.1 hs) p (by simpa using Array.mem_of_getElem? hp)
        rw [e] at h1
        simp only [bne_self_eq_false, Bool.false_or] at h1
        obtain ⟨q, hq, hb⟩ := Array.any_eq_true.1 h1
        simp only [Bool.and_eq_true, beq_iff_eq] at hb
        cases hli : l.getD i false with
        | false => rfl
        | true =>
          have := i8 i p hp hli _ (Array.getElem_mem hq) hb.1
          rw [hb.2, hjf] at this
          cases this)
      simp [Act.eval, Array.getD_eq_getD_getElem?, this]
    have hnot : ∀ (i : Nat), (match ops[i]? with | none => false | some p => reaches ops j 8 p) = true → l.getD i false = false := by
      intro i hi
      cases hp : ops[i]? with
      | none => rw [hp] at hi; cases hi
      | some p =>
        rw [hp] at hi
        cases hli : l.getD i false with
        | false => rfl
        | true =>
          have := reach_listed i8 8 p (i8 i p hp hli) hi
          rw [hjf] at this
          cases this
    have hwt : Region.wanted o (yielded ops a.tmps) = true := by
      have hg := K.guard j o ho
      unfold gOk at hg
      unfold Region.wanted
      cases hgd : o.guard with
      | none => rfl
      | some ib =>
        obtain ⟨i, b⟩ := ib
        rw [hgd] at hg
        simp only [Bool.and_eq_true] at hg
        obtain ⟨⟨g1, g2⟩, g3⟩ := hg
        cases hp : ops[i]? with
        | none => rw [hp] at g3; cases g3
        | some p =>
          rw [hp] at g3
          obtain ⟨t, ht⟩ := Option.isSome_iff_exists.1 g3
          have h9 := hin i t g1 (by rw [hp]; exact ht)
          have hv := i5 i p t hp ht (hdep i g1)
          cases hui : us[i]? with
          | none => rw [hui] at g2; cases g2
          | some u =>
            rw [hui] at g2
            cases u with
            | none => cases g2
            | some x =>
              cases x with
              | bool c =>
                have hvb : vs i = .bool c := told_is _ h9.2 hui
                rw [hvb] at hv
                simp only [beq_iff_eq] at g2
                subst g2
                simp [yielded, hp, ht, hv]
              | _ => cases g2
    rw [if_pos hwt]
    exact .inl (Oper.wp_mono (fun a' w' ⟨v, e, hv, hJ⟩ => by rw [e]; exact next v w' hv hJ) (hop j o hjs ho a w l vs i1 hjf i6 hout hin hdep hnot))
  · rintro l a w ⟨i1, i2, i3, i4, i8, vs, i5, i7, i6⟩ hr
    have hall : ∀ n j, j < n → j < ops.size → l.getD j false = true := by
      intro n
      induction n with
      | zero => intro j hj; omega
      | succ n ih =>
        intro j hj hjs
        cases hlj : l.getD j false with
        | true => rfl
        | false =>
          exfalso
          have hmem : j ∈ Region.ready .any ops l := by
            rw [mem_ready]
            refine ⟨?_, ops[j], Array.getElem?_eq_getElem hjs, fun e he hb => ?_⟩
            · simp only [Array.getD_eq_getD_getElem?] at hlj ⊢
              rw [Array.getElem?_eq_getElem (by omega)] at hlj ⊢
              simpa using hlj
            · have := K.back j ops[j] (Array.getElem?_eq_getElem hjs) e he hb
              exact ih e.on (by omega) (by omega)
          rw [hr] at hmem
          cases hmem
    have hl := fun j (hj : j < ops.size) => hall (j + 1) j (by omega) hj
    have ha : a = putAll a0 ops.toList ((List.range ops.size).map vs) := by
      have hs := putAll_size ops.toList ((List.range ops.size).map vs) a0
      have hdst : ∀ (i j : Nat) (p q : Oper) (t : Nat), ops.toList[i]? = some p → ops.toList[j]? = some q → i ≠ j → p.dst = some t → q.dst ≠ some t := by
        intro i j p q t hp hq hij
        rw [Array.getElem?_toList] at hp hq
        rcases Nat.lt_or_gt_of_ne hij with h | h
        · exact K.apart i j p q t h hp hq
        · exact fun e1 e2 => K.apart j i q p t h hq hp e2 e1
      have ht : a.tmps = (putAll a0 ops.toList ((List.range ops.size).map vs)).tmps := by
        apply Array.ext_getElem?
        intro t
        by_cases hx : ∃ (j : Nat) (o : Oper), ops[j]? = some o ∧ o.dst = some t
        · obtain ⟨j, o, ho, hd⟩ := hx
          have hjs : j < ops.size := (Array.getElem?_eq_some_iff.1 ho).1
          have hv := i5 j o t ho hd (hl j hjs)
          have hvv : ((List.range ops.size).map vs)[j]? = some (vs j) := by simp [hjs]
          rw [hv, putAll_sameW ops.toList ((List.range ops.size).map vs) a0 j o (vs j) t (by rw [Array.getElem?_toList]; exact ho) hvv hd (hsl' o (Array.mem_of_getElem? ho) t hd) hdst]
        · have hno : ∀ p ∈ ops.toList, p.dst ≠ some t := by
            intro p hp e
            obtain ⟨j, hj⟩ := List.mem_iff_getElem?.1 hp
            exact hx ⟨j, p, by rw [← Array.getElem?_toList]; exact hj, e⟩
          rw [i4 t (fun i p hp e => absurd e (hno p (by simpa using Array.mem_of_getElem? hp))), putAll_other ops.toList ((List.range ops.size).map vs) a0 t hno]
      cases a
      simp only at ht i2
      cases hp : putAll a0 ops.toList ((List.range ops.size).map vs) with
      | mk tm df =>
        rw [hp] at ht hs
        simp only at ht hs
        rw [ht, i2, hs.2]
    rw [ha]
    exact hQ l vs w hl i6 fun j hj => i7 j (hl j hj)


theorem chg_bad (ao : Option Addr) (o : Option Dv.Dev) (j : Job) (n ep : Int) (more : List Int) (u : Value) (f : FuncId) (cs : Array Value) (w : World) (base : Nat) (L : List (Value × Int)) (hL : Qr w base u L) (hs : L.map Prod.snd = asks o j n ep more) (hmo : more.length ≤ 50) (x : Int) (hx : first0 (asks o j n ep more) = x) (h0 : x ≠ 0) :
    Calls Tryz.prog 74 #[aggV (askC ao j n ep), u, fnV f cs] w fun e w' => e = .returned (.tuple #[aggV (Vi.vwC Vi.zv), .bool false, .int .i64 x]) ∧ Kept [] w w' ∧ True := by
  have hl : L.length = 4 + more.length + 1 := by
    have := congrArg List.length hs
    simp [asks] at this
    omega
  refine (change_no ao j n ep u f cs w base L hL (by omega) (by omega) x (by rw [hs]; exact hx) h0).mono ?_
  rintro e w' ⟨rfl, hk⟩
  exact ⟨rfl, hk, trivial⟩
/-- A device and a job that are refused, with that error. -/
structure Bad (W : World) (ao : Option Addr) (o : Option Dv.Dev) (j : Job) (x : Int) : Prop where
  dq : Dq W (.pointer ao) o
  ne : x ≠ 0
  two : first0 [qa (decide (0 < oSize o)) 1, qa (fitsB o j) 2] = x
theorem Bad.k {W W' : World} {ao : Option Addr} {o : Option Dv.Dev} {j : Job} {x : Int} (h : Bad W ao o j x) (k : Kept [] W W') : Bad W' ao o j x := ⟨h.dq.kept k, h.ne, h.two⟩
theorem first0_pre {A B : List Int} {x : Int} (h : first0 A = x) (h0 : x ≠ 0) : first0 (A ++ B) = x := by
  induction A with
  | nil => exact absurd h.symm h0
  | cons y A ih =>
    rw [List.cons_append]
    unfold first0 at h ⊢
    split
    · rename_i e
      rw [if_pos e] at h
      exact ih h
    · rename_i e
      rw [if_neg e] at h
      exact h
theorem Bad.asks {W : World} {ao : Option Addr} {o : Option Dv.Dev} {j : Job} {x : Int} (h : Bad W ao o j x) (n ep : Int) (more : List Int) : first0 (asks o j n ep more) = x := by
  have e : Go.Proofs.YtcfflbafclmheaaGreatDoor.asks o j n ep more = [qa (decide (0 < oSize o)) 1, qa (fitsB o j) 2] ++ ([qa (nodeB j n) 2, qa (epochB o n ep) 2] ++ more ++ [qa (!oFenced o n ep) 8]) := by simp [Go.Proofs.YtcfflbafclmheaaGreatDoor.asks]
  rw [e]
  exact first0_pre h.two h.ne
theorem join_bad {w : World} {ao : Option Addr} {o : Option Dv.Dev} {j : Job} {x : Int} (h : Bad w ao o j x) (hw0 : 0 < w.heap.size) (n ep : Int) :
    Calls Tryz.prog 32 #[.pointer ao, aggV (jobC j), .int .i64 n, .int .i64 ep] w fun e w' => e = .returned (.tuple #[aggV (Vi.vwC Vi.zv), .bool false, .int .i64 x]) ∧ Kept [] w w' := by
  refine (joinW ao o j n ep w hw0 h.dq [] (Vi.zv, false) x (fun _ => True) (by simp) (fun _ _ _ _ _ _ => trivial) rfl ?_).mono ?_
  · intro W v base L c0 c1 hW hL hs C0 C1
    exact chg_bad ao o j n ep [] v 76 _ W base L hL hs (by simp) x (h.asks n ep []) h.ne
  · rintro e w' ⟨rfl, hk, -⟩
    exact ⟨rfl, hk⟩
theorem open_bad {w : World} {ao : Option Addr} {o : Option Dv.Dev} {j : Job} {x : Int} (h : Bad w ao o j x) (hw0 : 0 < w.heap.size) (n ep : Int) :
    Calls Tryz.prog 34 #[.pointer ao, aggV (jobC j), .int .i64 n, .int .i64 ep] w fun e w' => e = .returned (.tuple #[aggV (Vi.vwC Vi.zv), .bool false, .int .i64 x]) ∧ Kept [] w w' := by
  refine (openW ao o j n ep w hw0 h.dq [] (Vi.zv, false) x (fun _ => True) (by simp) (fun _ _ _ _ _ _ => trivial) rfl ?_).mono ?_
  · intro W v base L c0 c1 c2 c3 hW hL hs C0 C1 C2 C3
    exact chg_bad ao o j n ep [] v 87 _ W base L hL hs (by simp) x (h.asks n ep []) h.ne
  · rintro e w' ⟨rfl, hk, -⟩
    exact ⟨rfl, hk⟩
theorem out_bad {w : World} {ao : Option Addr} {o : Option Dv.Dev} {j : Job} {x : Int} (h : Bad w ao o j x) (hw0 : 0 < w.heap.size) (n ep who : Int) :
    Calls Tryz.prog 33 #[.pointer ao, aggV (jobC j), .int .i64 n, .int .i64 ep, .int .i64 who] w fun e w' => e = .returned (.tuple #[aggV (Vi.vwC Vi.zv), .bool false, .int .i64 x]) ∧ Kept [] w w' := by
  refine (outW ao o j n ep who w hw0 h.dq [] (Vi.zv, false) x (fun _ => True) (by simp) (fun _ _ _ _ _ _ => trivial) rfl ?_).mono ?_
  · intro W v base L c1 c2 c3 c4 hW hL hs C1 C2 C3 C4
    exact chg_bad ao o j n ep _ v 80 _ W base L hL hs (by simp) x (h.asks n ep _) h.ne
  · rintro e w' ⟨rfl, hk, -⟩
    exact ⟨rfl, hk⟩
/-- told over a row whose first question refuses, or else its second. -/
theorem told_two (bq : Nat) (L : List (Value × Int)) (F : List (FuncId × Array Value)) (W0 : World) (hL : L.length = 4) (hF : F.length = 2) (x : Int) (hx0 : x ≠ 0) (hs : first0 ((L.map Prod.snd).take 2) = x) (hq : ∀ p ∈ L, Ques W0 p.1 p.2) (BQ : Rg W0 bq (L.map Prod.fst ++ F.map fun q => fnV q.1 q.2)) :
    Calls Tryz.prog 67 #[.slice (some ⟨bq, 0, none⟩) 6 6] W0 fun e W' => ∃ y, e = .returned (.int .i64 y) ∧ Kept [] W0 W' ∧ y = x := by
  obtain ⟨qs, e, hqs⟩ := ques_list L hq
  have hql : qs.length = 4 := by
    have := congrArg List.length e
    simp at this
    omega
  refine told67 bq 6 6 (qs ++ F) W0 (by simp [hql, hF]) (by omega) (fun k W => k ≤ 1 ∧ Kept [] W0 W ∧ ∀ y ∈ (L.map Prod.snd).take k, y = 0) (fun y W' => Kept [] W0 W' ∧ y = x) ⟨by omega, Kept.refl _ _, by simp⟩ ?_ ?_ ?_
  · intro k W hI
    rw [List.map_append, ← e]
    exact BQ.kept hI.2.1 (by simp)
  · rintro k f cs W hk ⟨hk1, hW, h0⟩
    rw [List.getElem?_append_left (by omega)] at hk
    obtain ⟨y, hy, hent, hcl⟩ := hqs k f cs hk
    refine ⟨hent, (hcl W (K92.of hW)).mono ?_⟩
    rintro e W' ⟨rfl, hk'⟩
    refine ⟨y, rfl, ?_⟩
    have ht : ((L.map Prod.snd).take 2)[k]? = some y := by rw [List.getElem?_take_of_lt (by omega)]; exact hy
    by_cases hz : y = 0
    · refine .inl ⟨hz, ?_, hW.trans hk', fun u hu => ?_⟩
      · rcases Nat.lt_or_ge k 1 with h1 | h1
        · omega
        · exfalso
          have h9 : first0 ((L.map Prod.snd).take 2) = 0 := first0_all _ (fun u hu => by
            have hk1' : k = 1 := by omega
            subst hk1'
            rw [List.take_add_one, hy] at hu
            rcases List.mem_append.1 hu with hu | hu
            · exact h0 u hu
            · simp at hu; omega)
          rw [hs] at h9
          exact hx0 h9
      · rw [List.take_add_one, hy] at hu
        rcases List.mem_append.1 hu with hu | hu
        · exact h0 u hu
        · simp at hu; omega
    · refine .inr ⟨hz, hW.trans hk', ?_⟩
      rw [← hs]
      exact (first0_at _ k y (fun u hu => h0 u (by rw [List.take_take, Nat.min_eq_left (by omega)] at hu; exact hu)) ht hz).symm
  · rintro W ⟨h6, -⟩
    omega
theorem say_bad {w : World} {ao : Option Addr} {o : Option Dv.Dev} {j : Job} {x : Int} (h : Bad w ao o j x) (n : Int) (lx : Le.Le) :
    Calls Tryz.prog 31 #[.pointer ao, aggV (jobC j), .int .i64 n, aggV lx.C] w fun e w' => e = .returned (.int .i64 x) ∧ Kept [] w w' := by
  refine (sayW ao o j n lx w h.dq [] x (fun _ => True) ?_).mono ?_
  · intro W p b1 b2 b3 b4 b5 L hM hL hs hq hB
    refine (told_two p L [(69, #[P0 b4, P0 b5]), (71, #[P0 b2, P0 b3, P0 b1, P0 b4, P0 b5])] W hL rfl x h.ne (by rw [hs]; exact h.two) hq (Rg.of hB)).mono ?_
    rintro e W' ⟨y, rfl, hk, rfl⟩
    exact ⟨rfl, hk.mono (by simp), trivial⟩
  · rintro e w' ⟨rfl, hk, -⟩
    exact ⟨rfl, hk⟩
theorem view_bad {w : World} {ao : Option Addr} {o : Option Dv.Dev} {j : Job} {x : Int} (h : Bad w ao o j x) (hF : Vi.First w) :
    Calls Tryz.prog 13 #[.pointer ao, aggV (jobC j)] w fun e w' => e = .returned (.tuple #[aggV (Vi.vwC Vi.zv), .int .i64 x]) ∧ Kept [] w w' := by
  have := view13 (.pointer ao) o j w h.dq hF
  have e : mview o j = (Vi.zv, x) := by unfold mview; rw [h.two, if_neg h.ne]
  rw [e] at this
  exact this
theorem lease_bad {w : World} {ao : Option Addr} {o : Option Dv.Dev} {j : Job} {x : Int} (h : Bad w ao o j x) (n : Int) :
    Calls Tryz.prog 30 #[.pointer ao, aggV (jobC j), .int .i64 n] w fun e w' => e = .returned (.tuple #[aggV Le.le0.C, .int .i64 x]) ∧ Kept [] w w' := by
  have := lease30 (.pointer ao) o j n w h.dq
  have e : mlease o j n = (Le.le0, x) := by
    unfold mlease
    have h2 := first0_pre (B := [qa (nodeB j n) 2]) h.two h.ne
    rw [List.cons_append, List.cons_append, List.nil_append] at h2
    rw [h2, if_neg h.ne]
  rw [e] at this
  exact this
theorem rl_bad {w : World} {ao : Option Addr} {o : Option Dv.Dev} {j : Job} {x : Int} (h : Bad w ao o j x) (v : Vi.Vw) : rl o j v = [] := by
  unfold rl
  rw [h.two, if_neg h.ne]
theorem all_bad {w : World} {ao : Option Addr} {o : Option Dv.Dev} {j : Job} {x : Int} (h : Bad w ao o j x) (hF : Vi.First w) (v : Vi.Vw) (hv : v.ms.length = 8) :
    Calls Tryz.prog 19 #[.pointer ao, aggV (jobC j), aggV (Vi.vwC v)] w fun e w' => e = .returned (.bool false) ∧ Kept [] w w' := by
  have := all19 (.pointer ao) o j v w h.dq hF hv
  have e : mall o j v = false := by unfold mall; rw [rl_bad h v]; rfl
  rw [e] at this
  exact this
theorem kl1 : kJ1.1.1.ms.length = 8 := by kernel_rfl
theorem kl2 : kO1.1.1.ms.length = 8 := by kernel_rfl
theorem kl3 : kO2.1.1.ms.length = 8 := by kernel_rfl
theorem kl4 : kJ3.1.1.ms.length = 8 := by kernel_rfl
theorem kl5 : kO3.1.1.ms.length = 8 := by kernel_rfl
theorem kl6 : kU.1.1.ms.length = 8 := by kernel_rfl
theorem kl7 : kJ4.1.1.ms.length = 8 := by kernel_rfl
theorem known9 (w : World) (hF : Vi.First w) : Calls Tryz.prog 9 #[] w fun e w' => e = .returned (.bool true) ∧ Kept [] w w' := by
  have k1 := kn1
  have k2 := kn2
  have k3 := kn3
  have k4 := kn4
  have k5 := kn5
  have k6 := kn6
  have k7 := kn7
  simp only [Prod.mk.injEq] at k1 k2 k3 k4 k5 k6 k7
  have hj : jK.may = true := by kernel_rfl
  have e0 : ups (Dv.newDev jK.sectors.1.toNat jK.n.toNat) jK.n.toNat = kD0 := by kernel_rfl
  refine known_walk w hF kD0 kJ1.2.2 kJ2.2.2 kO1.2.2 kS1.2 kO2.2.2 kJ3.2.2 kO3.2.2 kU.2.2 kJ4.2.2 kS2.2 kJ1.1.1 kO1.1.1 kO2.1.1 kJ3.1.1 kO3.1.1 kU.1.1 kJ4.1.1 kO1.1.2 kO3.1.2 kJ4.1.2 kJ3.2.1
    kl1 kl2 kl3 kl4 kl5 kl6 kl7 k1.2.2.1 k1.2.2.2.1 k1.2.2.2.2 k4.2.2.1 k4.2.2.2 k5.2.1 k6.2.2.1 k6.2.2.2.1 k6.2.2.2.2.1 ?_ ?_ ?_ ?_ ?_ ?_ ?_ ?_ ?_ ?_ ?_ ?_ ?_
  · intro W
    have := lnew10 jK hj W
    rw [e0] at this
    exact this
  · intro b g W h hF
    have := view13 (P0 b) (some kD0) jK W ⟨b, g, rfl, h⟩ hF
    rw [kn0] at this
    exact this
  · intro b g W h hF
    have := join32 b g kD0 jK 0 1 W h hF
    rw [show (mjoin kD0 jK 0 1).1.2 = true from k1.1, show (mjoin kD0 jK 0 1).2.1 = 0 from k1.2.1] at this
    exact this
  · intro b g W h hF
    have := join32 b g kJ1.2.2 jK 0 1 W h hF
    rw [show (mjoin kJ1.2.2 jK 0 1).1.2 = false from k2.1, show (mjoin kJ1.2.2 jK 0 1).2.1 = 0 from k2.2.1, show (mjoin kJ1.2.2 jK 0 1).1.1 = kJ1.1.1 from k2.2.2] at this
    exact this
  · intro b g W h hF
    have := open34 b g kJ2.2.2 jK 0 1 W h hF
    rw [show (mopen kJ2.2.2 jK 0 1).2.1 = 11 from k3.1] at this
    exact this
  · intro b g W h hF
    have := say31 b g kO1.2.2 jK 0 ⟨1, 1, 1⟩ W h
    rw [show (msay kO1.2.2 jK 0 ⟨1, 1, 1⟩).1 = 0 from k3.2] at this
    exact this
  · intro b g W h hF
    have := open34 b g kS1.2 jK 0 1 W h hF
    rw [show (mopen kS1.2 jK 0 1).1.2 = true from k4.1, show (mopen kS1.2 jK 0 1).2.1 = 0 from k4.2.1] at this
    exact this
  · intro b g W h hF
    have := join32 b g kO2.2.2 jK 1 1 W h hF
    rw [show (mjoin kO2.2.2 jK 1 1).1.2 = true from k5.1] at this
    exact this
  · intro b g W h hF
    have := open34 b g kJ3.2.2 jK 0 1 W h hF
    rw [show (mopen kJ3.2.2 jK 0 1).2.1 = 6 from k5.2.2] at this
    exact this
  · intro b g W h hF
    have := out33 b g kO3.2.2 jK 1 1 0 W h hF
    rw [show (mOut kO3.2.2 jK 1 1 0).1.2 = true from k6.1, show (mOut kO3.2.2 jK 1 1 0).2.1 = 0 from k6.2.1] at this
    exact this
  · intro b g W h
    have := Dv.epoch19 b g kU.2.2 0 W h
    rw [k6.2.2.2.2.2] at this
    exact this
  · intro b g W h hF
    have := join32 b g kU.2.2 jK 2 5 W h hF
    rw [show (mjoin kU.2.2 jK 2 5).2.1 = 2 from k7.1] at this
    exact this
  · intro b g W h hF
    have := say31 b g kJ4.2.2 jK 0 ⟨1, 2, 0⟩ W h
    rw [show (msay kJ4.2.2 jK 0 ⟨1, 2, 0⟩).1 = 8 from k7.2] at this
    exact this

end Go.Proofs.YtcfflbafclmheaaGreatDoor

/-
  The document's device, where it lies, and the walks of its methods that look; does.
-/
namespace Go.Proofs.YtcfflbafclmheaaGreatDoor.Dv
set_option maxRecDepth 100000
open Go.RowKit

/-- What the document's device says of a cut: how many are left, -1: there is none. -/
def Dev.rleft (D : Dev) : Int := if D.set then D.left else -1
def refCells (D : Dev) (sg cap eg ecap : Nat) : Array Value := #[.slice (some ⟨sg, 0, none⟩) D.S.length cap, .slice (some ⟨eg, 0, none⟩) D.N ecap, .int .i64 D.rleft, .bool D.lost, .int .i64 D.done]

/-- The document's device at block r, its sectors at sg, its epochs at eg. -/
structure Rv (w : World) (r sg eg : Nat) (D : Dev) : Prop where
  ok : D.Ok
  ne : r ≠ sg ∧ r ≠ eg ∧ sg ≠ eg
  lay : ∃ cap ecap ex, w.heap[r]? = some (.cells (refCells D sg cap eg ecap) 110 (0, 0)) ∧ Body w sg cap D.S ∧ w.heap[eg]? = some (.cells ((D.E.take D.N).map (Value.int .i64) ++ ex).toArray 2 (0, 0)) ∧ D.N ≤ ecap

theorem Rv.kept {w w' : World} {r sg eg : Nat} {D : Dev} {X : List Nat} (h : Rv w r sg eg D) (hk : Kept X w w') (h1 : r ∉ X) (h2 : sg ∉ X) (h3 : eg ∉ X) : Rv w' r sg eg D := by
  obtain ⟨cap, ecap, ex, a1, ⟨ex', a2, a3⟩, a4⟩ := h.lay
  exact ⟨h.ok, h.ne, cap, ecap, ex, hk.heap a1 h1, ⟨ex', hk.heap a2 h2, a3⟩, hk.heap a4.1 h3, a4.2⟩
theorem Rv.lt {w : World} {r sg eg : Nat} {D : Dev} (h : Rv w r sg eg D) : r < w.heap.size ∧ sg < w.heap.size ∧ eg < w.heap.size := by
  obtain ⟨cap, ecap, ex, a1, ⟨ex', a2, a3⟩, a4⟩ := h.lay
  exact ⟨lt_of_block a1, lt_of_block a2, lt_of_block a4.1⟩
/-- What stands in the head, cell by cell. -/
theorem Rv.cells {w : World} {r sg eg : Nat} {D : Dev} (h : Rv w r sg eg D) : ∃ cap ecap, w.cell? ⟨r, 0, none⟩ = some (.slice (some ⟨sg, 0, none⟩) D.S.length cap) ∧ w.cell? ⟨r, 1, none⟩ = some (.slice (some ⟨eg, 0, none⟩) D.N ecap) ∧ w.cell? ⟨r, 2, none⟩ = some (.int .i64 D.rleft) ∧ w.cell? ⟨r, 3, none⟩ = some (.bool D.lost) ∧ w.cell? ⟨r, 4, none⟩ = some (.int .i64 D.done) ∧ (∀ i, w.frozen? ⟨r, i, none⟩ = false) ∧ Body w sg cap D.S ∧ D.N ≤ ecap := by
  obtain ⟨cap, ecap, ex, a1, a2, a3, a4⟩ := h.lay
  refine ⟨cap, ecap, ?_, ?_, ?_, ?_, ?_, fun i => frozen_of_block a1 i, a2, a4⟩ <;> rw [cell_of_block a1] <;> rfl
theorem Rv.epoch {w : World} {r sg eg : Nat} {D : Dev} (h : Rv w r sg eg D) (k : Nat) (hk : k < D.N) : w.cell? ⟨eg, k, none⟩ = some (.int .i64 (D.ep k)) := by
  obtain ⟨cap, ecap, ex, a1, a2, a3, a4⟩ := h.lay
  have h1 := h.ok.n1
  have h8 := h.ok.e8
  rw [cell_of_block a3, List.getElem?_toArray, List.getElem?_append_left (by simp; omega)]
  simp [Dev.ep, List.getD, hk, show k < D.E.length by omega]
theorem rleft_zero (D : Dev) : D.rleft = 0 ↔ (D.set = true ∧ D.left = 0) := by
  unfold Dev.rleft
  cases D.set <;> simp
theorem rleft_bd {D : Dev} (h : D.Ok) : -1 ≤ D.rleft ∧ D.rleft ≤ 9223372036854775807 := by
  have := h.l0
  unfold Dev.rleft
  split <;> omega

theorem r_epoch (r sg eg : Nat) (D : Dev) (x : Int) (w : World) (h : Rv w r sg eg D) : Calls Tryz.prog 37 #[P0 r, .int .i64 x] w fun e w' => e = .returned (.tuple #[.int .i64 (D.epoch x).1, .int .i64 (D.epoch x).2]) ∧ w' = w := by
  obtain ⟨cap, ecap, c0, c1, c2, c3, c4, cf, hb, hec⟩ := h.cells
  by_cases h0 : x < 0
  · have hE : D.epoch x = (0, 2) := by simp [Dev.epoch, hasN]; omega
    rw [hE]
    clear hE
    go_enter Tryz.func37, Tryz.ntmps37
    go_wp2_with fail
    go_ret2
    exact ⟨rfl, rfl⟩
  · obtain ⟨k, rfl⟩ := Int.eq_ofNat_of_zero_le (show 0 ≤ x by omega)
    by_cases hk : k < D.N
    · have hE : D.epoch k = (D.ep k, 0) := by simp [Dev.epoch, hasN, hk]
      rw [hE]
      have hc := h.epoch k hk
      clear hE
      go_enter Tryz.func37, Tryz.ntmps37
      go_wp2_with fail
      go_ret2
      exact ⟨rfl, rfl⟩
    · have hE : D.epoch k = (0, 2) := by simp [Dev.epoch, hasN, hk]
      rw [hE]
      clear hE
      go_enter Tryz.func37, Tryz.ntmps37
      go_wp2_with fail
      go_ret2
      exact ⟨rfl, rfl⟩

/-- Who may write, of the document's. -/
def Dev.whoR (D : Dev) (x ep : Int) : Int := if hasN D.N x = true ∧ 0 ≤ ep ∧ ep ≤ D.ep x then 0 else 2
theorem r_who (r sg eg : Nat) (D : Dev) (x ep : Int) (w : World) (h : Rv w r sg eg D) : Calls Tryz.prog 144 #[P0 r, .int .i64 x, .int .i64 ep] w fun e w' => e = .returned (.int .i64 (D.whoR x ep)) ∧ w' = w := by
  obtain ⟨cap, ecap, c0, c1, c2, c3, c4, cf, hb, hec⟩ := h.cells
  by_cases h0 : x < 0
  · have hE : Hid (D.whoR x ep = 2) := by simp [Dev.whoR, hasN, Hid]; omega
    go_enter Tryz.func144, Tryz.ntmps144
    go_wp2_with fail
    go_ret
    exact ⟨ret_int hE.out.symm, rfl⟩
  · obtain ⟨k, rfl⟩ := Int.eq_ofNat_of_zero_le (show 0 ≤ x by omega)
    by_cases hk : k < D.N
    · have hc := h.epoch k hk
      by_cases he0 : ep < 0
      · have hE : Hid (D.whoR k ep = 2) := by simp [Dev.whoR, hasN, Hid, hk]; omega
        go_enter Tryz.func144, Tryz.ntmps144
        go_wp2_with fail
        go_ret
        exact ⟨ret_int hE.out.symm, rfl⟩
      · by_cases he1 : ep ≤ D.ep k
        · have hE : Hid (D.whoR k ep = 0) := by simp [Dev.whoR, hasN, Hid, hk, he1]; omega
          go_enter Tryz.func144, Tryz.ntmps144
          go_wp2_with fail
          go_ret
          exact ⟨ret_int hE.out.symm, rfl⟩
        · have hE : Hid (D.whoR k ep = 2) := by simp [Dev.whoR, hasN, Hid, hk]; omega
          go_enter Tryz.func144, Tryz.ntmps144
          go_wp2_with fail
          go_ret
          exact ⟨ret_int hE.out.symm, rfl⟩
    · have hE : Hid (D.whoR k ep = 2) := by simp [Dev.whoR, hasN, Hid, hk]
      go_enter Tryz.func144, Tryz.ntmps144
      go_wp2_with fail
      go_ret
      exact ⟨ret_int hE.out.symm, rfl⟩

end Go.Proofs.YtcfflbafclmheaaGreatDoor.Dv

/-
  The walks of the document's device: does, Read, Up, Cut, Whole, Fence.
-/
namespace Go.Proofs.YtcfflbafclmheaaGreatDoor.Dv
set_option maxRecDepth 100000
open Go.RowKit

/-- A cell of the head is written. -/
theorem Rv.put {w : World} {r sg eg i : Nat} {u : Value} {D D' : Dev} (h : Rv w r sg eg D) (hok : D'.Ok) (hS : D'.S = D.S) (hE : D'.E = D.E) (hN : D'.N = D.N) (hc : ∀ cap ecap, refCells D' sg cap eg ecap = (refCells D sg cap eg ecap).setIfInBounds i u) : Rv (w.setCell ⟨r, i, none⟩ u) r sg eg D' := by
  obtain ⟨cap, ecap, ex, a1, ⟨ex', a2, a3⟩, a4, a5⟩ := h.lay
  refine ⟨hok, h.ne, cap, ecap, ex, ?_, ⟨ex', ?_, ?_⟩, ?_, ?_⟩
  · rw [heap_set a1, hc]
  · rw [hS]; exact heap_set_ne a2 (Ne.symm h.ne.1)
  · rw [hS]; exact a3
  · rw [hE, hN]; exact heap_set_ne a4 (Ne.symm h.ne.2.1)
  · rw [hN]; exact a5

/-- One thing is done, its bytes apart: the device, and whether. -/
def Dev.does (D : Dev) : Dev × Bool :=
  if D.set = true ∧ D.left = 0 then ({ D with lost := true }, false) else ({ D with left := if D.set then D.left - 1 else D.left, done := wrap64 (D.done + 1) }, true)
theorem step_does (D : Dev) (S' : List (List Int)) (E' : List Int) : D.step S' E' = if D.does.2 then ({ D.does.1 with S := S', E := E' }, true) else (D.does.1, false) := by
  unfold Dev.step Dev.does
  split <;> simp
theorem does_S (D : Dev) : D.does.1.S = D.S ∧ D.does.1.E = D.E ∧ D.does.1.N = D.N := by unfold Dev.does; split <;> exact ⟨rfl, rfl, rfl⟩

theorem ref_lost (D : Dev) (x : Bool) (sg cap eg ecap : Nat) : refCells { D with lost := x } sg cap eg ecap = (refCells D sg cap eg ecap).setIfInBounds 3 (.bool x) := by simp [refCells, Dev.rleft]
theorem ref_done (D : Dev) (x : Int) (sg cap eg ecap : Nat) : refCells { D with done := x } sg cap eg ecap = (refCells D sg cap eg ecap).setIfInBounds 4 (.int .i64 x) := by simp [refCells, Dev.rleft]
theorem ref_left (D : Dev) (x : Int) (hs : D.set = true) (sg cap eg ecap : Nat) : refCells { D with left := x } sg cap eg ecap = (refCells D sg cap eg ecap).setIfInBounds 2 (.int .i64 x) := by simp [refCells, Dev.rleft, hs]

theorem ref_none (D : Dev) (sg cap eg ecap : Nat) : refCells { D with set := false, left := 0 } sg cap eg ecap = (refCells D sg cap eg ecap).setIfInBounds 2 (.int .i64 (-1)) := by simp [refCells, Dev.rleft]
theorem ref_set (D : Dev) (n : Int) (sg cap eg ecap : Nat) : refCells { D with set := true, left := n } sg cap eg ecap = (refCells D sg cap eg ecap).setIfInBounds 2 (.int .i64 n) := by simp [refCells, Dev.rleft]

theorem r_does (r sg eg : Nat) (D : Dev) (w : World) (h : Rv w r sg eg D) : Calls Tryz.prog 58 #[P0 r] w fun e w' => e = .returned (.bool D.does.2) ∧ Rv w' r sg eg D.does.1 ∧ Kept [r] w w' := by
  obtain ⟨cap, ecap, c0, c1, c2, c3, c4, cf, hb, hec⟩ := h.cells
  have hok := h.ok
  have hl0 := hok.l0
  have f2 := cf 2
  have f3 := cf 3
  have f4 := cf 4
  clear cf
  cases hs : D.set with
  | false =>
    have hR : D.does = ({ D with done := wrap64 (D.done + 1) }, true) := by simp [Dev.does, hs]
    have hr : D.rleft = -1 := by simp [Dev.rleft, hs]
    rw [hR]
    rw [hr] at c2
    have hp := hide (h.put (hok.done' (wrap64 (D.done + 1))) rfl rfl rfl (fun cap ecap => ref_done D _ sg cap eg ecap))
    clear hR hr
    go_enter Tryz.func58, Tryz.ntmps58
    go_wp2_with fail
    go_ret
    exact ⟨rfl, unhide hp, (Kept.refl _ _).setCell (by simp) _⟩
  | true =>
    have hr : D.rleft = D.left := by simp [Dev.rleft, hs]
    rw [hr] at c2
    by_cases hz : D.left = 0
    · have hR : D.does = ({ D with lost := true }, false) := by simp [Dev.does, hs, hz]
      rw [hR]
      rw [hz] at c2
      have hp := hide (h.put (hok.lost' true) rfl rfl rfl (fun cap ecap => ref_lost D true sg cap eg ecap))
      clear hR hr hz
      go_enter Tryz.func58, Tryz.ntmps58
      go_wp2_with fail
      go_ret
      exact ⟨rfl, unhide hp, (Kept.refl _ _).setCell (by simp) _⟩
    · have hR : D.does = ({ D with left := D.left - 1, done := wrap64 (D.done + 1) }, true) := by simp [Dev.does, hs, hz]
      rw [hR]
      have h1 := h.put (hok.left (x := D.left - 1) (by omega)) rfl rfl rfl (fun cap ecap => ref_left D _ hs sg cap eg ecap)
      have hp := hide (h1.put (h1.ok.done' (wrap64 (D.done + 1))) rfl rfl rfl (fun cap ecap => ref_done _ _ sg cap eg ecap))
      rw [hs] at hp
      clear hR hr h1
      go_enter Tryz.func58, Tryz.ntmps58
      go_wp2_with fail
      go_ret
      exact ⟨rfl, unhide hp, ((Kept.refl _ _).setCell (by simp) _).setCell (by simp) _⟩

theorem Rv.putEp {w : World} {r sg eg k : Nat} {x : Int} {D : Dev} (h : Rv w r sg eg D) (hk : k < D.N) (hx : 0 ≤ x ∧ x ≤ 2147483647) : Rv (w.setCell ⟨eg, k, none⟩ (.int .i64 x)) r sg eg { D with E := D.E.set k x } := by
  obtain ⟨cap, ecap, ex, a1, ⟨ex', a2, a3⟩, a4, a5⟩ := h.lay
  refine ⟨h.ok.epoch k x hx, h.ne, cap, ecap, ex, heap_set_ne a1 h.ne.2.1, ⟨ex', heap_set_ne a2 h.ne.2.2, a3⟩, ?_, a5⟩
  have h1 := h.ok.n1
  have h8 := h.ok.e8
  rw [heap_set a4]
  congr 2
  rw [List.setIfInBounds_toArray, List.set_append_left _ _ (by simp; omega)]
  congr 2
  rw [← List.map_set, List.take_set]

/-- The document's Up. -/
theorem r_up (r sg eg : Nat) (D : Dev) (x : Int) (w : World) (h : Rv w r sg eg D) : Calls Tryz.prog 23 #[P0 r, .int .i64 x] w fun e w' => e = .returned (.tuple #[.int .i64 (D.up x).1, .int .i64 (D.up x).2.1]) ∧ Rv w' r sg eg (D.up x).2.2 ∧ Kept [r, eg] w w' := by
  have HC := r_epoch r sg eg D x w h
  cases hN : hasN D.N x with
  | false =>
    have hE : D.epoch x = (0, 2) := by simp [Dev.epoch, hN]
    have hU : D.up x = (0, 2, D) := by simp [Dev.up, hN]
    rw [hU]
    rw [hE] at HC
    have HC := hide HC
    clear hE hU
    go_enter Tryz.func23, Tryz.ntmps23
    go_wp2_with (go_at_call 37; refine (unhide HC).mono ?_; rintro e w' ⟨rfl, rfl⟩)
    go_ret2
    exact ⟨rfl, h, Kept.refl _ _⟩
  | true =>
    obtain ⟨h0, h1⟩ := hasN_true hN
    obtain ⟨k, rfl⟩ := Int.eq_ofNat_of_zero_le h0
    have hkN : k < D.N := by omega
    have hE : D.epoch k = (D.ep k, 0) := by simp [Dev.epoch, hN]
    have hle := ep_le h.ok k hkN
    rw [hE] at HC
    have HC := hide HC
    clear hE
    by_cases hm : D.ep k = 2147483647
    · have hU : D.up k = (0, 5, D) := by simp [Dev.up, hN, hm]
      rw [hU]
      clear hU
      go_enter Tryz.func23, Tryz.ntmps23
      go_wp2_with (go_at_call 37; refine (unhide HC).mono ?_; rintro e w' ⟨rfl, rfl⟩)
      go_ret2
      exact ⟨rfl, h, Kept.refl _ _⟩
    · have hU : D.up k = (D.ep k + 1, 0, (D.step D.S (D.E.set k (D.ep k + 1))).1) := by simp [Dev.up, hN, hm]
      rw [hU, step_does]
      have HD := hide (r_does r sg eg D w h)
      cases hd : D.does.2 with
      | true =>
        rw [hd] at HD
        clear hU h1
        go_enter Tryz.func23, Tryz.ntmps23
        go_wp2_with (first | (go_at_call 37; refine (unhide HC).mono ?_; rintro e w' ⟨rfl, rfl⟩))
        refine (unhide HD).mono ?_
        rintro e w1 ⟨rfl, hd1, hk1⟩
        obtain ⟨cap, ecap, c0, c1, c2, c3, c4, cf, hb, hec⟩ := hd1.cells
        have hs := does_S D
        have hce := hd1.epoch k (by rw [hs.2.2]; exact hkN)
        have hfe : w1.frozen? ⟨eg, k, none⟩ = false := by
          obtain ⟨_, _, _, _, _, a3, _⟩ := hd1.lay
          exact frozen_of_block a3 k
        have hp := hide (hd1.putEp (k := k) (x := D.ep k + 1) (by rw [hs.2.2]; exact hkN) (by omega))
        rw [hs.2.2] at c1
        rw [hs.2.1, hs.1, hs.2.2] at hp
        have hkI : (k : Int) < D.N := by omega
        clear cf HC HD hb
        go_wp2_with fail
        go_ret2
        refine ⟨rfl, ?_, (hk1.mono (by simp)).setCell (by simp) _⟩
        exact unhide hp
      | false =>
        rw [hd] at HD
        clear hU h1
        go_enter Tryz.func23, Tryz.ntmps23
        go_wp2_with (first | (go_at_call 37; refine (unhide HC).mono ?_; rintro e w' ⟨rfl, rfl⟩) | (go_at_call 58; refine (unhide HD).mono ?_; rintro e w1 ⟨rfl, hd1, hk1⟩))
        go_ret2
        exact ⟨rfl, hd1, hk1.mono (by simp)⟩

end Go.Proofs.YtcfflbafclmheaaGreatDoor.Dv

/-
  The walks of the document's Fence and Read.
-/
namespace Go.Proofs.YtcfflbafclmheaaGreatDoor.Dv
set_option maxRecDepth 100000
open Go.RowKit

theorem who_zero {D : Dev} {x ep : Int} (h : D.whoR x ep = 0) : hasN D.N x = true ∧ 0 ≤ ep ∧ ep ≤ D.ep x := by
  unfold Dev.whoR at h
  split at h
  · assumption
  · simp at h
theorem who_two {D : Dev} {x ep : Int} (h : D.whoR x ep ≠ 0) : D.whoR x ep = 2 ∧ ¬ (hasN D.N x = true ∧ 0 ≤ ep ∧ ep ≤ D.ep x) := by
  unfold Dev.whoR at h ⊢
  split
  · rename_i hc; simp [hc] at h
  · exact ⟨rfl, by assumption⟩
theorem ref_two {D : Dev} {x ep : Int} {may : Bool} (h : may = false ∨ ¬ (hasN D.N x = true ∧ 0 ≤ ep ∧ ep ≤ D.ep x)) : D.ref x ep may = 2 := by
  unfold Dev.ref
  rw [if_neg]
  rintro ⟨h1, h2⟩
  rcases h with h | h
  · rw [h] at h1; cases h1
  · exact h h2
theorem who_is (r sg eg : Nat) (D : Dev) (x ep : Int) (w : World) (h : Rv w r sg eg D) (v : Int) (hv : D.whoR x ep = v) : Calls Tryz.prog 144 #[P0 r, .int .i64 x, .int .i64 ep] w fun e w' => e = .returned (.int .i64 v) ∧ w' = w := by
  subst hv; exact r_who r sg eg D x ep w h

set_option maxHeartbeats 2000000 in
theorem r_fence (r sg eg : Nat) (D : Dev) (x ep y ab : Int) (w : World) (h : Rv w r sg eg D) (hab : -9223372036854775808 ≤ ab ∧ ab ≤ 9223372036854775807) :
    Calls Tryz.prog 98 #[P0 r, .int .i64 x, .int .i64 ep, .int .i64 y, .int .i64 ab] w fun e w' => e = .returned (.int .i64 (D.fence x ep y ab).1) ∧ Rv w' r sg eg (D.fence x ep y ab).2 ∧ Kept [r, eg] w w' := by
  obtain ⟨cap, ecap, c0, c1, c2, c3, c4, cf, hb, hec⟩ := h.cells
  have bad : D.ref x ep (hasN D.N y && decide (0 ≤ ab ∧ ab ≤ 2147483646)) = 2 → D.fence x ep y ab = (2, D) := by
    intro h2
    simp only [Dev.fence, h2]
    rfl
  by_cases hw0 : D.whoR x ep = 0
  · obtain ⟨hx, he0, he1⟩ := who_zero hw0
    have HW := hide (who_is r sg eg D x ep w h 0 hw0)
    clear hw0
    by_cases hy0 : y < 0
    · rw [bad (ref_two (.inl (by simp [hasN]; omega)))]
      clear bad
      go_enter Tryz.func98, Tryz.ntmps98
      go_wp2_with (go_at_call 144; refine (unhide HW).mono ?_; rintro e w' ⟨rfl, rfl⟩)
      go_ret
      exact ⟨rfl, h, Kept.refl _ _⟩
    · obtain ⟨q, rfl⟩ := Int.eq_ofNat_of_zero_le (show 0 ≤ y by omega)
      by_cases hq : q < D.N
      · by_cases ha0 : ab < 0
        · rw [bad (ref_two (.inl (by simp; omega)))]
          clear bad
          go_enter Tryz.func98, Tryz.ntmps98
          go_wp2_with (go_at_call 144; refine (unhide HW).mono ?_; rintro e w' ⟨rfl, rfl⟩)
          go_ret
          exact ⟨rfl, h, Kept.refl _ _⟩
        · by_cases ha1 : 2147483646 < ab
          · rw [bad (ref_two (.inl (by simp; omega)))]
            clear bad
            go_enter Tryz.func98, Tryz.ntmps98
            go_wp2_with (go_at_call 144; refine (unhide HW).mono ?_; rintro e w' ⟨rfl, rfl⟩)
            go_ret
            exact ⟨rfl, h, Kept.refl _ _⟩
          · have hmay : (hasN D.N (q : Int) && decide (0 ≤ ab ∧ ab ≤ 2147483646)) = true := by simp [hasN, hq]; omega
            obtain ⟨k, rfl⟩ := Int.eq_ofNat_of_zero_le (hasN_true hx).1
            have hkN : k < D.N := by have := (hasN_true hx).2; omega
            have hck := h.epoch k hkN
            have hcq := h.epoch q hq
            have hqI : (q : Int) < D.N := by omega
            have hkI : (k : Int) < D.N := by omega
            clear bad
            by_cases hfen : ep < D.ep k
            · have hU : D.fence k ep q ab = (8, D) := by
                have : D.ref k ep true = 8 := by simp [Dev.ref, hx, he0, he1, hfen]
                simp only [Dev.fence, hmay, this]; rfl
              rw [hU]
              clear hU
              go_enter Tryz.func98, Tryz.ntmps98
              go_wp2_with (go_at_call 144; refine (unhide HW).mono ?_; rintro e w' ⟨rfl, rfl⟩)
              go_ret
              exact ⟨rfl, h, Kept.refl _ _⟩
            · have hr0 : D.ref k ep true = 0 := by simp [Dev.ref, hx, he0, he1]; omega
              by_cases hle : D.ep q ≤ ab
              · have hU : D.fence k ep q ab = (0, (D.step D.S (D.E.set q (ab + 1))).1) := by simp only [Dev.fence, hmay, hr0, if_true, hle]; rfl
                rw [hU, step_does]
                clear hU hr0
                have HD := hide (r_does r sg eg D w h)
                cases hd : D.does.2 with
                | true =>
                  rw [hd] at HD
                  go_enter Tryz.func98, Tryz.ntmps98
                  go_wp2_with (first | (go_at_call 144; refine (unhide HW).mono ?_; rintro e w' ⟨rfl, rfl⟩))
                  refine (unhide HD).mono ?_
                  rintro e w1 ⟨rfl, hd1, hk1⟩
                  obtain ⟨cap', ecap', _, c1', _, _, _, _, _, _⟩ := hd1.cells
                  have hs := does_S D
                  have hce := hd1.epoch q (by rw [hs.2.2]; exact hq)
                  have hfe : w1.frozen? ⟨eg, q, none⟩ = false := by
                    obtain ⟨_, _, _, _, _, a3, _⟩ := hd1.lay
                    exact frozen_of_block a3 q
                  have hp := hide (hd1.putEp (k := q) (x := ab + 1) (by rw [hs.2.2]; exact hq) (by omega))
                  rw [hs.2.2] at c1'
                  rw [hs.2.1, hs.1, hs.2.2] at hp
                  clear HD hb
                  go_wp2_with fail
                  go_ret
                  exact ⟨rfl, unhide hp, (hk1.mono (by simp)).setCell (by simp) _⟩
                | false =>
                  rw [hd] at HD
                  go_enter Tryz.func98, Tryz.ntmps98
                  go_wp2_with (first | (go_at_call 144; refine (unhide HW).mono ?_; rintro e w' ⟨rfl, rfl⟩) | (go_at_call 58; refine (unhide HD).mono ?_; rintro e w1 ⟨rfl, hd1, hk1⟩))
                  go_ret
                  exact ⟨rfl, hd1, hk1.mono (by simp)⟩
              · have hU : D.fence k ep q ab = (0, D) := by simp only [Dev.fence, hmay, hr0, if_true, hle]; rfl
                rw [hU]
                clear hU hr0
                go_enter Tryz.func98, Tryz.ntmps98
                go_wp2_with (go_at_call 144; refine (unhide HW).mono ?_; rintro e w' ⟨rfl, rfl⟩)
                go_ret
                exact ⟨rfl, h, Kept.refl _ _⟩
      · rw [bad (ref_two (.inl (by simp [hasN]; omega)))]
        clear bad
        go_enter Tryz.func98, Tryz.ntmps98
        go_wp2_with (go_at_call 144; refine (unhide HW).mono ?_; rintro e w' ⟨rfl, rfl⟩)
        go_ret
        exact ⟨rfl, h, Kept.refl _ _⟩
  · obtain ⟨hw2, hno⟩ := who_two hw0
    rw [bad (ref_two (.inr hno))]
    have HW := hide (who_is r sg eg D x ep w h 2 hw2)
    clear bad hw0 hw2
    go_enter Tryz.func98, Tryz.ntmps98
    go_wp2_with (go_at_call 144; refine (unhide HW).mono ?_; rintro e w' ⟨rfl, rfl⟩)
    go_ret
    exact ⟨rfl, h, Kept.refl _ _⟩

theorem res39 (w : World) (z : Nat) (s : List Int) (e : Int) (tmps : Array Value) (h4 : tmps[4]?.getD undef = .pointer (some ⟨z, 0, none⟩)) (h5 : tmps[5]?.getD undef = .int .i64 e) (hb : Box w z s) : (results Tryz.f48 tmps).run Tryz.prog w = .ok (.tuple #[secV s, .int .i64 e]) w := by
  have := hb.at.loadVar
  simp [results, Tryz.results48, h4, h5, this, asAddr]

theorem Rv.sector {w : World} {r sg eg : Nat} {D : Dev} (h : Rv w r sg eg D) (i : Nat) (hi : i < D.S.length) : At w sg (i * 64) D.S[i] := by
  obtain ⟨cap, ecap, _, _, _, _, _, _, hb, _⟩ := h.cells
  exact ⟨h.ok.sec _ (List.getElem_mem hi), hb.range h.ok.sec i hi, hb.there h.ok.sec i hi⟩
theorem Rv.alloc {w : World} {r sg eg : Nat} {D : Dev} (h : Rv w r sg eg D) (o : Obj) : Rv (w.alloc o) r sg eg D := h.kept (X := []) ((Kept.refl _ _).alloc o) (by simp) (by simp) (by simp)

set_option maxHeartbeats 1000000 in
set_option maxRecDepth 100000 in
theorem r_read (r sg eg : Nat) (D : Dev) (x : Int) (w : World) (h : Rv w r sg eg D) : Calls Tryz.prog 48 #[P0 r, .int .i64 x] w fun e w' => e = .returned (.tuple #[secV (D.read x).1, .int .i64 (D.read x).2]) ∧ Kept [] w w' := by
  have hb0 := hide (Box.new w)
  have hk0 := hide ((Kept.refl [] w).alloc (.cells (u8s nought).toArray 59))
  have hD := h.alloc (.cells (u8s nought).toArray 59)
  obtain ⟨cap, ecap, c0, c1, c2, c3, c4, cf, hb, hec⟩ := hD.cells
  have bad : hasS D.S.length x 1 = false → D.read x = (nought, 2) := by intro hN; simp [Dev.read, hN]
  by_cases h0 : x < 0
  · rw [bad (by simp [hasS]; omega)]
    clear bad
    go_enter Tryz.func48, Tryz.ntmps48
    go_wp2_with (first | (refine wpAllocS rfl rfl ?_) | (refine wpBuildS rfl rfl ?_) | (refine wpStoreS rfl (.tmp 4) (.tmp 20) rfl w.heap.size 0 nought rfl rfl nought_sec (unhide hb0).at.2.2 ?_))
    exact bodyPost_ret (res39 _ w.heap.size nought 2 _ rfl rfl ((unhide hb0).put nought_sec)) rfl ⟨rfl, (unhide hk0).setCells _ _ (by simp)⟩
  · obtain ⟨k, rfl⟩ := Int.eq_ofNat_of_zero_le (show 0 ≤ x by omega)
    by_cases hk : k < D.S.length
    · have hE : D.read k = (D.S[k], 0) := by
        have hN : hasS D.S.length (k : Int) 1 = true := by simp [hasS]; omega
        simp [Dev.read, hN, List.getD, hk]
      rw [hE]
      have hA := hide (hD.sector k hk)
      clear hE bad
      go_enter Tryz.func48, Tryz.ntmps48
      go_wp2_with (first | (refine wpAllocS rfl rfl ?_) | (refine wpLoadS rfl (.tmp 26) rfl sg (k * 64) rfl _ (unhide hA) ?_) | (refine wpStoreS rfl (.tmp 4) (.tmp 27) rfl w.heap.size 0 _ rfl rfl (unhide hA).1 (unhide hb0).at.2.2 ?_))
      exact bodyPost_ret (res39 _ w.heap.size _ 0 _ rfl rfl ((unhide hb0).put (unhide hA).1)) rfl ⟨rfl, (unhide hk0).setCells _ _ (by simp)⟩
    · rw [bad (by simp [hasS]; omega)]
      clear bad
      go_enter Tryz.func48, Tryz.ntmps48
      go_wp2_with (first | (refine wpAllocS rfl rfl ?_) | (refine wpBuildS rfl rfl ?_) | (refine wpStoreS rfl (.tmp 4) (.tmp 20) rfl w.heap.size 0 nought rfl rfl nought_sec (unhide hb0).at.2.2 ?_))
      exact bodyPost_ret (res39 _ w.heap.size nought 2 _ rfl rfl ((unhide hb0).put nought_sec)) rfl ⟨rfl, (unhide hk0).setCells _ _ (by simp)⟩

end Go.Proofs.YtcfflbafclmheaaGreatDoor.Dv

/-
  The walk of the document's Swap.
-/
namespace Go.Proofs.YtcfflbafclmheaaGreatDoor.Dv
set_option maxRecDepth 100000
open Go.RowKit

theorem Rv.drewN {w : World} {r sg eg : Nat} {D : Dev} (h : Rv w r sg eg D) (n : Nat) : Rv (w.drewN n) r sg eg D := h.kept (X := []) ((Kept.refl _ _).drewN n) (by simp) (by simp) (by simp)
theorem Rv.drew {w : World} {r sg eg : Nat} {D : Dev} (h : Rv w r sg eg D) : Rv w.drew r sg eg D := h.kept (X := []) ((Kept.refl _ _).drew) (by simp) (by simp) (by simp)
/-- A sector of the document's device is written. -/
theorem Rv.putS {w : World} {r sg eg k : Nat} {D : Dev} {s : List Int} (h : Rv w r sg eg D) (hk : k < D.S.length) (hs : Sec s) : Rv (w.setCells sg (k * 64) (u8s s)) r sg eg { D with S := D.S.set k s } := by
  obtain ⟨cap, ecap, ex, a1, a2, a4, a5⟩ := h.lay
  refine ⟨h.ok.sector k s hs, h.ne, cap, ecap, ex, ?_, a2.put h.ok.sec k hk s hs.1, ?_, a5⟩
  · rw [sets_ne _ _ _ _ h.ne.1, a1]
    simp [refCells, Dev.rleft]
  · rw [sets_ne _ _ _ _ (Ne.symm h.ne.2.2)]; exact a4

/-- The world behind the boxes. -/
def swapR (w : World) (s t : List Int) : World := (w.alloc (.cells (u8s s).toArray 59)).alloc (.cells (u8s t).toArray 59)

set_option maxHeartbeats 4000000 in
set_option maxRecDepth 100000 in
theorem r_swap (r sg eg : Nat) (D : Dev) (x ep f : Int) (s t : List Int) (w : World) (h : Rv w r sg eg D) (hs : Sec s) (ht : Sec t) :
    Calls Tryz.prog 143 #[P0 r, .int .i64 x, .int .i64 ep, .int .i64 f, secV s, secV t] w fun e w' => e = .returned (.tuple #[.bool (D.swap x ep f s t).1, .int .i64 (D.swap x ep f s t).2.1]) ∧ Rv w' r sg eg (D.swap x ep f s t).2.2 ∧ Kept [r, sg] w w' := by
  have hlt := h.lt
  have hkW : Kept [] w (swapR w s t) := ((Kept.refl _ _).alloc _).alloc _
  have hD := h.kept hkW (by simp) (by simp) (by simp)
  have hbs : Hid (Box (swapR w s t) w.heap.size s) := ⟨hs, heap_alloc_old (heap_new rfl)⟩
  have hbt : Hid (Box (swapR w s t) (w.heap.size + 1) t) := ⟨ht, heap_new (by simp)⟩
  obtain ⟨cap, ecap, c0, c1, c2, c3, c4, cf, hb, hec⟩ := hD.cells
  have bad : D.ref x ep (hasS D.S.length f 1) = 2 → D.swap x ep f s t = (false, 2, D) := by
    intro h2
    simp only [Dev.swap, h2]
    rfl
  by_cases hw0 : D.whoR x ep = 0
  · obtain ⟨hx, he0, he1⟩ := who_zero hw0
    have HW := hide (who_is r sg eg D x ep _ hD 0 hw0)
    clear hw0
    by_cases hf0 : f < 0
    · rw [bad (ref_two (.inl (by simp [hasS]; omega)))]
      clear bad
      go_enter Tryz.func143, Tryz.ntmps143
      go_wp2_with (first | (refine wpBoxS rfl (.tmp 4) rfl s rfl ?_) | (refine wpBoxS rfl (.tmp 5) rfl t rfl ?_) | (go_at_call 144; refine (unhide HW).mono ?_; rintro e w' ⟨rfl, rfl⟩))
      go_ret2
      exact ⟨rfl, hD, hkW.mono (by simp)⟩
    · obtain ⟨q, rfl⟩ := Int.eq_ofNat_of_zero_le (show 0 ≤ f by omega)
      by_cases hq : q < D.S.length
      · have hS : hasS D.S.length (q : Int) 1 = true := by simp [hasS]; omega
        obtain ⟨k, rfl⟩ := Int.eq_ofNat_of_zero_le (hasN_true hx).1
        have hkN : k < D.N := by have := (hasN_true hx).2; omega
        have hck := hD.epoch k hkN
        have hqI : (q : Int) < D.S.length := by omega
        have hkI : (k : Int) < D.N := by omega
        have hq0 : (0 : Int) ≤ (q : Int) := by omega
        clear bad
        by_cases hfen : ep < D.ep k
        · have hU : D.swap k ep q s t = (false, 8, D) := by
            have : D.ref k ep true = 8 := by simp [Dev.ref, hx, he0, he1, hfen]
            simp only [Dev.swap, hS, this]; rfl
          rw [hU]
          clear hU
          go_enter Tryz.func143, Tryz.ntmps143
          go_wp2_with (first | (refine wpBoxS rfl (.tmp 4) rfl s rfl ?_) | (refine wpBoxS rfl (.tmp 5) rfl t rfl ?_) | (go_at_call 144; refine (unhide HW).mono ?_; rintro e w' ⟨rfl, rfl⟩))
          go_ret2
          exact ⟨rfl, hD, hkW.mono (by simp)⟩
        · have hr0 : D.ref k ep true = 0 := by simp [Dev.ref, hx, he0, he1]; omega
          have hU : D.swap k ep q s t = if D.S[q] = s then (true, 0, (D.step (D.S.set q t) D.E).1) else (false, 0, D) := by simp [Dev.swap, hS, hr0, hq]
          rw [hU]
          have hsq := hD.ok.sec _ (List.getElem_mem hq)
          have hrq := hb.range hD.ok.sec q hq
          have hrs := (unhide hbs).at.2.1
          clear hU hr0 hS
          by_cases he : D.S[q] = s
          · rw [if_pos he]
            have hdec : Hid ((!decide (D.S[q] = s)) = false) := by simpa [Hid] using he
            clear he
            rw [step_does]
            have HDo : ∀ n, Hid (Calls Tryz.prog 58 #[P0 r] ((swapR w s t).drewN n) fun e w' => e = .returned (.bool D.does.2) ∧ Rv w' r sg eg D.does.1 ∧ Kept [r] ((swapR w s t).drewN n) w') := fun n => r_does r sg eg D _ (hD.drewN n)
            have hbt2 : ∀ n, Hid (Box ((swapR w s t).drewN n) (w.heap.size + 1) t) := fun n => (unhide hbt).kept (X := []) ((Kept.refl _ _).drewN _) (by simp)
            have hne1 : Hid (w.heap.size + 1 ≠ r ∧ w.heap.size + 1 ≠ sg) := ⟨by omega, by omega⟩
            have hs3 := does_S D
            cases hd : D.does.2 with
            | true =>
              rw [hd] at HDo
              go_enter Tryz.func143, Tryz.ntmps143
              go_wp2_with (first | (refine wpBoxS rfl (.tmp 4) rfl s rfl ?_) | (refine wpBoxS rfl (.tmp 5) rfl t rfl ?_) | (go_at_call 144; refine (unhide HW).mono ?_; rintro e w' ⟨rfl, rfl⟩))
              change Code.wp _ _ _ _ (swapR w s t)
              generalize swapR w s t = W at *
              refine wp_region_quiet_lit (by kernel_rfl) (by kernel_rfl) ?_
              repeat (first | (refine quietLoadS rfl (.tmp 48) rfl sg (q * 64) rfl D.S[q] hsq (by rintro _ ⟨_, rfl⟩; exact hrq) ?_) | (refine quietLoadS rfl (.tmp 10) rfl w.heap.size 0 rfl s hs (by rintro _ ⟨_, rfl⟩; exact hrs) ?_) | (refine quietNeqS rfl (.tmp 49) (.tmp 50) _ rfl D.S[q] s rfl rfl hsq hs _ (unhide hdec) ?_) | quiet_step (fail))
              refine wpQuiet_nil ?_
              intro _ hw'
              obtain ⟨nq2, hw''⟩ := hw'
              subst hw''
              go_wp2_with fail
              refine (unhide (HDo _)).mono ?_
              rintro e w1 ⟨rfl, hd1, hk1⟩
              have hbt3 := (unhide (hbt2 nq2)).kept hk1 (by simpa using (unhide hne1).1)
              have hp := hide (hd1.drew.putS (k := q) (s := t) (by rw [hs3.1]; exact hq) ht)
              rw [hs3.1, hs3.2.1, hs3.2.2] at hp
              have hkk : Hid (Kept [r, sg] w w1) := ((hkW.drewN nq2).mono (by simp)).trans (hk1.mono (by simp))
              obtain ⟨cap', ecap', c0', _, _, _, _, _, hb', _⟩ := hd1.cells
              have hth := hb'.there hd1.ok.sec q (by rw [hs3.1]; exact hq)
              rw [hs3.1] at c0'
              have hrt := hbt3.at.2.1
              have hu := Tryz.underlying59
              have hu8 : (u8s t).length = 64 := by rw [u8s_len, ht.1]
              have hsz : (Tryz.prog.info? 59).map (·.size) = some (u8s t).length := by rw [hu8]; exact Tryz.info38
              have hone := u8s_one t
              have hrsg := hd1.ne.1
              have n0 := (unhide hne1).2
              clear HDo HW hbt2 hbt3 hbs hbt hrs hrq hD hck c0 c1 c2 c3 c4 cf hb hb' hec hne1
              generalize w.heap.size + 1 = pt at *
              go_wp2_with fail
              go_region_held3 (fun w' => w'.cell? ⟨r, 0, none⟩ = some (.slice (some ⟨sg, 0, none⟩) D.S.length cap') ∧ w'.rangeAt pt 0 (u8s t) ∧ w'.there sg (q * 64) 64)
                (first | (go_keep_ranges; done) | (go_keep; done) | (go_split_ands; simp only [World.rangeAt_drew, World.there_drew] at *; refine ⟨cell_sets_ne hrsg (by assumption), World.rangeAt_setCells_apart (by assumption) _ _ _ (.inl n0), World.there_setCells (by assumption) _ _ _⟩)) (fail)
              all_goals go_wp2_with fail
              go_ret2
              exact ⟨rfl, unhide hp, (unhide hkk).drew.setCells _ _ (by simp)⟩
            | false =>
              rw [hd] at HDo
              go_enter Tryz.func143, Tryz.ntmps143
              go_wp2_with (first | (refine wpBoxS rfl (.tmp 4) rfl s rfl ?_) | (refine wpBoxS rfl (.tmp 5) rfl t rfl ?_) | (go_at_call 144; refine (unhide HW).mono ?_; rintro e w' ⟨rfl, rfl⟩))
              change Code.wp _ _ _ _ (swapR w s t)
              generalize swapR w s t = W at *
              refine wp_region_quiet_lit (by kernel_rfl) (by kernel_rfl) ?_
              repeat (first | (refine quietLoadS rfl (.tmp 48) rfl sg (q * 64) rfl D.S[q] hsq (by rintro _ ⟨_, rfl⟩; exact hrq) ?_) | (refine quietLoadS rfl (.tmp 10) rfl w.heap.size 0 rfl s hs (by rintro _ ⟨_, rfl⟩; exact hrs) ?_) | (refine quietNeqS rfl (.tmp 49) (.tmp 50) _ rfl D.S[q] s rfl rfl hsq hs _ (unhide hdec) ?_) | quiet_step (fail))
              refine wpQuiet_nil ?_
              intro _ hw'
              obtain ⟨nq2, hw''⟩ := hw'
              subst hw''
              go_wp2_with fail
              refine (unhide (HDo _)).mono ?_
              rintro e w1 ⟨rfl, hd1, hk1⟩
              go_wp2_with fail
              go_ret2
              exact ⟨rfl, hd1, ((hkW.drewN nq2).mono (by simp)).trans (hk1.mono (by simp))⟩
          · rw [if_neg he]
            have hdec : Hid ((!decide (D.S[q] = s)) = true) := by simpa [Hid] using he
            clear he
            go_enter Tryz.func143, Tryz.ntmps143
            go_wp2_with (first | (refine wpBoxS rfl (.tmp 4) rfl s rfl ?_) | (refine wpBoxS rfl (.tmp 5) rfl t rfl ?_) | (go_at_call 144; refine (unhide HW).mono ?_; rintro e w' ⟨rfl, rfl⟩))
            change Code.wp _ _ _ _ (swapR w s t)
            generalize swapR w s t = W at *
            refine wp_region_quiet_lit (by kernel_rfl) (by kernel_rfl) ?_
            repeat (first | (refine quietLoadS rfl (.tmp 48) rfl sg (q * 64) rfl D.S[q] hsq (by rintro _ ⟨_, rfl⟩; exact hrq) ?_) | (refine quietLoadS rfl (.tmp 10) rfl w.heap.size 0 rfl s hs (by rintro _ ⟨_, rfl⟩; exact hrs) ?_) | (refine quietNeqS rfl (.tmp 49) (.tmp 50) _ rfl D.S[q] s rfl rfl hsq hs _ (unhide hdec) ?_) | quiet_step (fail))
            refine wpQuiet_nil ?_
            intro _ hw'
            obtain ⟨nq2, hw''⟩ := hw'
            subst hw''
            go_wp2_with fail
            go_ret2
            exact ⟨rfl, hD.drewN _, (hkW.drewN _).mono (by simp)⟩
      · rw [bad (ref_two (.inl (by simp [hasS]; omega)))]
        clear bad
        go_enter Tryz.func143, Tryz.ntmps143
        go_wp2_with (first | (refine wpBoxS rfl (.tmp 4) rfl s rfl ?_) | (refine wpBoxS rfl (.tmp 5) rfl t rfl ?_) | (go_at_call 144; refine (unhide HW).mono ?_; rintro e w' ⟨rfl, rfl⟩))
        go_ret2
        exact ⟨rfl, hD, hkW.mono (by simp)⟩
  · obtain ⟨hw2, hno⟩ := who_two hw0
    rw [bad (ref_two (.inr hno))]
    have HW := hide (who_is r sg eg D x ep _ hD 2 hw2)
    clear bad hw0 hw2
    go_enter Tryz.func143, Tryz.ntmps143
    go_wp2_with (first | (refine wpBoxS rfl (.tmp 4) rfl s rfl ?_) | (refine wpBoxS rfl (.tmp 5) rfl t rfl ?_) | (go_at_call 144; refine (unhide HW).mono ?_; rintro e w' ⟨rfl, rfl⟩))
    go_ret2
    exact ⟨rfl, hD, hkW.mono (by simp)⟩

end Go.Proofs.YtcfflbafclmheaaGreatDoor.Dv

/-
  The walk of the document's Write.
-/
namespace Go.Proofs.YtcfflbafclmheaaGreatDoor.Dv
set_option maxRecDepth 100000
open Go.RowKit

/-- Sectors that are written as the document says: none is left out, whatever the one ahead. -/
def Dev.rputs (D : Dev) (k : Nat) : List (List Int) → Dev
  | [] => D
  | s :: L => (if D.does.2 then { D.does.1 with S := D.S.set k s } else D.does.1).rputs (k + 1) L

theorem does_no {D : Dev} (h : D.does.2 = false) : D.does.1.does = (D.does.1, false) := by
  unfold Dev.does at h ⊢
  split at h
  · rename_i hc
    rw [if_pos hc]
    simp [hc]
  · simp at h
theorem rputs_no : ∀ (L : List (List Int)) (D : Dev) (k : Nat), D.does = (D, false) → D.rputs k L = D := by
  intro L
  induction L with
  | nil => intro D k _; rfl
  | cons s L ih =>
    intro D k h
    rw [Dev.rputs, h]
    exact ih D (k + 1) h
theorem rputs_eq : ∀ (L : List (List Int)) (D : Dev) (k : Nat), D.rputs k L = D.puts k L := by
  intro L
  induction L with
  | nil => intro D k; rfl
  | cons s L ih =>
    intro D k
    rw [Dev.rputs, Dev.puts, step_does]
    cases hd : D.does.2 with
    | true =>
      simp only [if_true]
      have hs := does_S D
      rw [ih]
      congr 1
      rw [← hs.2.1]
    | false =>
      simp only [Bool.false_eq_true, if_false]
      exact rputs_no L _ _ (does_no hd)

set_option maxHeartbeats 4000000 in
set_option maxRecDepth 100000 in
theorem r_write (r sg eg : Nat) (D : Dev) (x ep f : Int) (ao : Option Addr) (n c : Nat) (L : List (List Int)) (w : World) (h : Rv w r sg eg D) (hf : -9223372036854775808 ≤ f ∧ f ≤ 9223372036854775807) (hn : n ≤ 9223372036854775807) (hL : Secs w ao n c L) (hA : Away ao [r, sg]) :
    Calls Tryz.prog 100 #[P0 r, .int .i64 x, .int .i64 ep, .int .i64 f, .slice ao n c] w fun e w' => e = .returned (.int .i64 (D.write x ep f L).1) ∧ Rv w' r sg eg (D.write x ep f L).2 ∧ Kept [r, sg] w w' := by
  have hlen := hL.len
  have hs1 := h.ok.s1
  obtain ⟨cap, ecap, c0, c1, c2, c3, c4, cf, hb, hec⟩ := h.cells
  have bad : D.ref x ep (hasS D.S.length f L.length) = 2 → D.write x ep f L = (2, D) := by
    intro h2
    simp only [Dev.write, h2]
    rfl
  by_cases hw0 : D.whoR x ep = 0
  · obtain ⟨hx, he0, he1⟩ := who_zero hw0
    have HW := hide (who_is r sg eg D x ep _ h 0 hw0)
    clear hw0
    by_cases hf0 : f < 0
    · rw [bad (ref_two (.inl (by simp [hasS]; omega)))]
      clear bad
      go_enter Tryz.func100, Tryz.ntmps100
      go_wp2_with (first | (go_at_call 144; refine (unhide HW).mono ?_; rintro e w' ⟨rfl, rfl⟩))
      go_ret
      exact ⟨rfl, h, Kept.refl _ _⟩
    · obtain ⟨F, rfl⟩ := Int.eq_ofNat_of_zero_le (show 0 ≤ f by omega)
      by_cases hF : D.S.length < F
      · rw [bad (ref_two (.inl (by simp [hasS]; omega)))]
        clear bad
        go_enter Tryz.func100, Tryz.ntmps100
        go_wp2_with (first | (go_at_call 144; refine (unhide HW).mono ?_; rintro e w' ⟨rfl, rfl⟩))
        go_ret
        exact ⟨rfl, h, Kept.refl _ _⟩
      · by_cases hlast : (D.S.length : Int) - F < n
        · rw [bad (ref_two (.inl (by simp [hasS]; omega)))]
          clear bad
          go_enter Tryz.func100, Tryz.ntmps100
          go_wp2_with (first | (go_at_call 144; refine (unhide HW).mono ?_; rintro e w' ⟨rfl, rfl⟩))
          go_ret
          exact ⟨rfl, h, Kept.refl _ _⟩
        · have hS : hasS D.S.length (F : Int) L.length = true := by simp [hasS]; omega
          obtain ⟨k0, rfl⟩ := Int.eq_ofNat_of_zero_le (hasN_true hx).1
          have hkN : k0 < D.N := by have := (hasN_true hx).2; omega
          have hck := h.epoch k0 hkN
          have hkI : (k0 : Int) < D.N := by omega
          clear bad
          by_cases hfen : ep < D.ep k0
          · have hU : D.write k0 ep F L = (8, D) := by
              have : D.ref k0 ep true = 8 := by simp [Dev.ref, hx, he0, he1, hfen]
              simp only [Dev.write, hS, this]; rfl
            rw [hU]
            clear hU
            go_enter Tryz.func100, Tryz.ntmps100
            go_wp2_with (first | (go_at_call 144; refine (unhide HW).mono ?_; rintro e w' ⟨rfl, rfl⟩))
            go_ret
            exact ⟨rfl, h, Kept.refl _ _⟩
          · have hr0 : D.ref k0 ep true = 0 := by simp [Dev.ref, hx, he0, he1]; omega
            have hU : D.write k0 ep F L = (0, D.rputs F L) := by simp [Dev.write, hS, hr0, rputs_eq]
            rw [hU]
            have hD0 := hide h
            clear hU hr0 hS
            go_enter Tryz.func100, Tryz.ntmps100
            go_wp2_with (first | (go_at_call 144; refine (unhide HW).mono ?_; rintro e w' ⟨rfl, rfl⟩))
            clear HW hck c0 c1 c2 c3 c4 cf hb hec hkN hkI
            go_loopw [11] (fun i wr => ∃ (k : Nat) (Dk : Dev), k ≤ n ∧ i = .int .i64 k ∧ Hid (Rv wr r sg eg Dk) ∧ Dk.S.length = D.S.length ∧ Hid (Dk.rputs (F + k) (L.drop k) = D.rputs F L) ∧ Hid (Kept [r, sg] w' wr)) (fun i _ => n - (intOf i).toNat)
            case atStart => exact ⟨0, D, by omega, rfl, hD0, rfl, rfl, Kept.refl _ _⟩
            case round =>
              obtain ⟨k, Dk, hkn, rfl, hDk, hSk, hPk, hKk⟩ := hrel
              by_cases hlt' : k < n
              · obtain ⟨s, hs⟩ : ∃ s, L[k]? = some s := ⟨_, List.getElem?_eq_getElem (by omega)⟩
                have hsec : Sec s := hL.sec s (List.mem_of_getElem? hs)
                obtain ⟨hb, off, rfl, hr⟩ := hL.lies (by intro e; simp [e] at hlen; omega)
                have hrk := hr k (by omega)
                have hgs : L[k]'(by omega) = s := by have := List.getElem?_eq_getElem (l := L) (i := k) (by omega); rw [this] at hs; simpa using hs
                rw [hgs] at hrk
                have hrr : wr.rangeAt hb (off + k * 64) (u8s s) := fun j v hj => (unhide hKk).cell (hrk j v hj) (hA hb off rfl)
                have hAw := hA hb off rfl
                have hdrop : L.drop k = s :: L.drop (k + 1) := by rw [List.drop_eq_getElem_cons (by omega), hgs]
                have hPs := unhide hPk
                rw [hdrop, Dev.rputs] at hPs
                have HDo := hide (r_does r sg eg Dk wr (unhide hDk))
                have hs3 := does_S Dk
                clear hr hrk hdrop hgs
                cases hd : Dk.does.2 with
                | true =>
                  rw [hd] at HDo
                  rw [hd, if_pos rfl] at hPs
                  have HPs := hide hPs
                  clear hPs hPk hs
                  go_wp2_with fail
                  refine (unhide HDo).mono ?_
                  rintro e w1 ⟨rfl, hd1, hk1⟩
                  obtain ⟨m, hm⟩ : ∃ m, m = F + k := ⟨_, rfl⟩
                  have hmI : (m : Int) < D.S.length := by omega
                  have hp := hide (hd1.drew.putS (k := m) (s := s) (by rw [hs3.1, hSk]; omega) hsec)
                  rw [hs3.1] at hp
                  obtain ⟨cap', ecap', c0', _, _, _, _, _, hb', _⟩ := hd1.cells
                  have hth := hb'.there hd1.ok.sec m (by rw [hs3.1, hSk]; omega)
                  rw [hs3.1, hSk] at c0'
                  have hrt : w1.rangeAt hb (off + k * 64) (u8s s) := fun j v hj => hk1.cell (hrr j v hj) (by simp at hAw ⊢; exact hAw.1)
                  have hkk : Hid (Kept [r, sg] w' w1) := (unhide hKk).trans (hk1.mono (by simp))
                  have hu := Tryz.underlying59
                  have hu8 : (u8s s).length = 64 := by rw [u8s_len, hsec.1]
                  have hsz : (Tryz.prog.info? 59).map (·.size) = some (u8s s).length := by rw [hu8]; exact Tryz.info38
                  have hone := u8s_one s
                  have hrsg := hd1.ne.1
                  have n0 : hb ≠ sg := by simp at hAw; exact hAw.2
                  have hwr : IntKind.i64.wrap ((F : Int) + (k : Int)) = (m : Int) := by rw [IntKind.wrap_i64]; omega
                  have hm0 : (0 : Int) ≤ (m : Int) := by omega
                  have hk0 : (0 : Int) ≤ (k : Int) := by omega
                  have hkI : (k : Int) < (n : Int) := by omega
                  have hsl : Dk.does.1.S.length = D.S.length := by rw [hs3.1, hSk]
                  have Hm := hide hm
                  clear HDo hrr hb' hAw hm
                  go_wp2_with fail
                  go_region_held3 (fun w' => w'.cell? ⟨r, 0, none⟩ = some (.slice (some ⟨sg, 0, none⟩) D.S.length cap') ∧ w'.rangeAt hb (off + k * 64) (u8s s) ∧ w'.there sg (m * 64) 64)
                    (first | (go_keep_ranges; done) | (go_keep; done) | (go_split_ands; simp only [World.rangeAt_drew, World.there_drew] at *; refine ⟨cell_sets_ne hrsg (by assumption), World.rangeAt_setCells_apart (by assumption) _ _ _ (.inl n0), World.there_setCells (by assumption) _ _ _⟩)) (fail)
                  all_goals go_wp2_with fail
                  go_roundw
                  case rel =>
                    refine ⟨k + 1, _, by omega, by go_num, hp, by simp [hSk], ?_, (unhide hkk).drew.setCells _ _ (by simp)⟩
                    rw [unhide Hm, ← Nat.add_assoc]
                    exact HPs
                  case measure => simp [intOf]; omega
                | false =>
                  rw [hd] at HDo
                  rw [hd, if_neg (by simp)] at hPs
                  have HPs := hide hPs
                  clear hPs hPk hs
                  go_wp2_with (go_at_call 58; refine (unhide HDo).mono ?_; rintro e w1 ⟨rfl, hd1, hk1⟩)
                  go_roundw
                  case rel => exact ⟨k + 1, _, by omega, by go_num, hd1, by rw [hs3.1]; exact hSk, by rw [← Nat.add_assoc]; exact HPs, (unhide hKk).trans (hk1.mono (by simp))⟩
                  case measure => simp [intOf]; omega
              · go_wp2_with fail
                go_ret
                have : L.drop k = [] := List.drop_eq_nil_of_le (by omega)
                have hp := unhide hPk
                rw [this] at hp
                simp only [Dev.rputs] at hp
                exact ⟨rfl, hp ▸ unhide hDk, unhide hKk⟩
  · obtain ⟨hw2, hno⟩ := who_two hw0
    rw [bad (ref_two (.inr hno))]
    have HW := hide (who_is r sg eg D x ep _ h 2 hw2)
    clear bad hw0 hw2
    go_enter Tryz.func100, Tryz.ntmps100
    go_wp2_with (first | (go_at_call 144; refine (unhide HW).mono ?_; rintro e w' ⟨rfl, rfl⟩))
    go_ret
    exact ⟨rfl, h, Kept.refl _ _⟩

end Go.Proofs.YtcfflbafclmheaaGreatDoor.Dv

/-
  The iterator All: what it hands to whatever loop ranges over it.
-/
namespace Go.Proofs.YtcfflbafclmheaaGreatDoor.Dv
set_option maxRecDepth 100000
open Go.RowKit Go.Shelf
attribute [local go_sem] Oper.semAt_some

/-- All blocks of sectors but those of X are as they were. -/
structure KeptC (X : List Nat) (A B : World) : Prop where
  size : A.heap.size ≤ B.heap.size
  block : ∀ k cs p, A.heap[k]? = some (.cells cs 59 p) → k ∉ X → B.heap[k]? = some (.cells cs 59 p)
theorem KeptC.trans {X : List Nat} {A B C : World} (h : KeptC X A B) (k : KeptC X B C) : KeptC X A C := ⟨Nat.le_trans h.size k.size, fun i cs p hi hx => k.block i cs p (h.block i cs p hi hx) hx⟩
theorem KeptC.refl (X : List Nat) (A : World) : KeptC X A A := ⟨Nat.le_refl _, fun _ _ _ h _ => h⟩
theorem KeptC.putObj {X : List Nat} {W : World} {l : Nat} {o o' : Obj} (h : W.heap[l]? = some o) (hc : o.isCells = false) : KeptC X W (W.putObj l o') := by
  refine ⟨by simp, fun k cs p hk _ => ?_⟩
  by_cases e : k = l
  · subst e; rw [h] at hk; cases hk; simp [Obj.isCells] at hc
  · rw [World.putObj_heap_other e]; exact hk
theorem KeptC.of_kept {X : List Nat} {A B : World} (h : Kept X A B) : KeptC X A B := ⟨h.size, fun k cs p hk hx => by rw [h.block k (lt_of_block hk) hx]; exact hk⟩

theorem secs_news {w : World} {h off n c : Nat} {L : List (List Int)} (hs : Secs w (some ⟨h, off, none⟩) n c L) (hn : 0 < n) : ∀ j u, (u8s L.flatten)[j]? = some u → w.cell? ((⟨h, off, none⟩ : Addr).add j) = some u := by
  intro j u hj
  obtain ⟨h', off', e, hr⟩ := hs.lies (by intro e; have := hs.len; simp [e] at this; omega)
  cases e
  have hjl : j < L.length * 64 := by
    have := (List.getElem?_eq_some_iff.1 hj).1
    rwa [u8s_len, flat_len hs.sec] at this
  have hk : j / 64 < L.length := by omega
  have := hr (j / 64) hk (j % 64) u ?_
  · rw [Addr.add_mid]
    rw [show off + j = off + j / 64 * 64 + j % 64 by omega]
    exact this
  · obtain ⟨pre, post, h2, h3⟩ := flat_range hs.sec (j / 64) hk
    have hl := (hs.sec _ (List.getElem_mem hk)).1
    rw [h2, u8s_app, u8s_app, List.append_assoc, List.getElem?_append_right (by rw [u8s_len]; omega), List.getElem?_append_left (by rw [u8s_len, u8s_len, hl]; omega), u8s_len] at hj
    rw [← hj]; congr 1; omega

/-- A row of the call's own, out of what append says. -/
theorem owns_block {w : World} {base n : Nat} {v : Value} {L : List (List Int)} (h : w.ownsRow base 59 64 v n (u8s L.flatten)) (hn : 0 < n) : ∃ q cap ex, v = .slice (some ⟨q, 0, none⟩) n cap ∧ base ≤ q ∧ w.heap[q]? = some (.cells (u8s L.flatten ++ ex).toArray 59 (0, 0)) ∧ n ≤ cap ∧ ex.length = (cap - n) * 64 ∧ cap ≤ maxLen := by
  obtain ⟨h0, ⟨_, e⟩ | ⟨q, cap, cur, rfl, h1, h2, h3, h4, h5, h6⟩⟩ := h
  · omega
  · refine ⟨q, cap, cur.toList.drop (n * 64), rfl, h1, ?_, h3, ?_, h4⟩
    · rw [← h6, List.take_append_drop]; exact h2
    · rw [List.length_drop, Array.length_toList, h5, Nat.sub_mul]

theorem run_build0 (w : World) : (Instr.buildSlice 60 0 #[]).run Tryz.prog w = .ok (.slice (some ⟨w.heap.size, 0, none⟩) 0 0) (w.alloc (.cells #[] 59)) := by kernel_rfl
theorem wpBuild0 {ops : Array Oper} {rest : List Oper} {op : Oper} {a : Act} {w : World} {Q : Exit → Act → World → Prop} (hgd : op.guard = none) (ho : op.op = .buildSlice 60 0 #[])
    (h : wpList Tryz.prog ops Q rest (a.put op.dst (.slice (some ⟨w.heap.size, 0, none⟩) 0 0)) (w.alloc (.cells #[] 59))) : wpList Tryz.prog ops Q (op :: rest) a w :=
  wpList_plain hgd fun K hK => by
    unfold Oper.wp execOp
    simp only [ho, Array.map_empty, Sem.run_bind, run_build0, Result.andThen_ok]
    exact hK _ _ h

theorem eq36 (a : Addr) (n c : Nat) (W : World) : Sem.run Tryz.prog (binOp BinOp.eql 60 (.slice (some a) n c) (.slice none 0 0)) W = .ok (.bool false) W := by kernel_rfl

-- A clone of sectors.
set_option maxRecDepth 100000 in
set_option maxHeartbeats 1000000 in
theorem cloneSs (ao : Option Addr) (n c : Nat) (L : List (List Int)) (w : World) (h : Secs w ao n c L) (hn : 0 < n) (hm : n ≤ 2000000000) :
    Calls Tryz.prog 55 #[.slice ao n c] w fun e w' => ∃ q cap ex, e = .returned (.slice (some ⟨q, 0, none⟩) n cap) ∧ w.heap.size ≤ q ∧ w'.heap[q]? = some (.cells (u8s L.flatten ++ ex).toArray 59 (0, 0)) ∧ n ≤ cap ∧ ex.length = (cap - n) * 64 ∧ cap ≤ maxLen ∧ Kept [] w w' := by
  have hlen := h.len
  obtain ⟨hb, off, rfl, hr⟩ := h.lies (by intro e; simp [e] at hlen; omega)
  have hs1 := h.kept (X := []) ((Kept.refl _ _).alloc (.cells #[] 59)) (by intro _ _ _; simp)
  have hnews := hide (secs_news hs1 hn)
  have hfl := flat_len h.sec
  obtain ⟨i0, hi, hz0, hz1, hz2⟩ := info_parts Tryz.zero38
  have hown : Hid ((w.alloc (.cells #[] 59)).ownsRow w.heap.size 59 64 (.slice (some ⟨w.heap.size, 0, none⟩) 0 0) 0 []) := ⟨rfl, .inr ⟨w.heap.size, 0, #[], rfl, Nat.le_refl _, heap_alloc_new w _, Nat.le_refl _, by simp, rfl, rfl⟩⟩
  have hq := eq36 ⟨hb, off, none⟩ n c
  clear hr hs1
  go_enter Tryz.func55, Tryz.ntmps55
  go_wp2_with (first | (refine wpBuild0 rfl rfl ?_) | (at_builtin; refine wpList_append_own _ rfl (.tmp 5) (.tmp 6) 60 rfl w.heap.size 59 i0 (secV nought) 64 64 Tryz.underlying60 hi hz0 hz1 hz2 (by kernel_rfl) (by decide) _ 0 [] rfl (unhide hown) ⟨hb, off, none⟩ n c (u8s L.flatten) rfl (by rw [u8s_len, hfl, hlen]) (unhide hnews) (u8s_one _) (by unfold maxLen; omega) (by omega) (by simp) ?_; intro v' w1 g1 g2 _))
  go_ret
  rw [Nat.zero_add, List.nil_append] at g1
  obtain ⟨q, cap, ex, rfl, q1, q2, q3, q4, q5⟩ := owns_block g1 hn
  refine ⟨q, cap, ex, rfl, q1, q2, q3, q4, q5, ?_⟩
  exact ((Kept.refl [] w).alloc (.cells #[] 59)).fresh (Kept.of_grown (X := [w.heap.size]) g2 (by intro k hk _; have e : some w.heap.size = some k := hk; simp at e; simp [e])) (by simp)

/-- What the iterator hands on: a number, and a sector. -/
structure Row where
  i : Nat
  s : List Int
  h : Sec s
def Row.vals (x : Row) : Array Value := #[.int .i64 x.i, secV x.s]
/-- All rows of a list of sectors. -/
def rows (S : List (List Int)) (hS : ∀ s ∈ S, Sec s) (k : Nat) : List Row := (List.range k).map (fun i => if h : i < S.length then ⟨i, S[i], hS _ (List.getElem_mem h)⟩ else ⟨i, nought, nought_sec⟩)
theorem rows_succ (S : List (List Int)) (hS : ∀ s ∈ S, Sec s) (k : Nat) (hk : k < S.length) : rows S hS (k + 1) = rows S hS k ++ [⟨k, S[k], hS _ (List.getElem_mem hk)⟩] := by simp [rows, List.range_succ, hk]
theorem rows_len (S : List (List Int)) (hS : ∀ s ∈ S, Sec s) (k : Nat) : (rows S hS k).length = k := by simp [rows]

theorem grown_of_kept {w w' : World} (h : Kept [] w w') : w.grownBy w' none := ⟨h.os, h.tape, h.output, h.size, fun k hk _ => h.block k hk (by simp)⟩

-- Laws for sectors, inside a fence that lets all by.
theorem wpIn_value {F : Fence} {n : Nat} {o : Oper} {a : Act} {w w' : World} {v : Value} {K : Act → World → Prop} {Q : Exit → Act → World → Prop} (hF : ∀ f, F.fn f) (hsem : o.semAt F.round a.eval = execOp a.eval o) (h : (execOp a.eval o).run Tryz.prog w = .ok (.value v) w') (hk : K (a.put o.dst v) w') : o.wpIn F n Tryz.prog a w K Q := by
  refine ⟨fun f _ => hF f, ?_⟩
  rw [hsem, h]
  exact hk
theorem wpIn_skip {F : Fence} {n : Nat} {o : Oper} {a : Act} {w w' : World} {K : Act → World → Prop} {Q : Exit → Act → World → Prop} (hF : ∀ f, F.fn f) (hsem : o.semAt F.round a.eval = execOp a.eval o) (h : (execOp a.eval o).run Tryz.prog w = .ok .skip w') (hk : K (a.put o.dst undef) w') : o.wpIn F n Tryz.prog a w K Q := by
  refine ⟨fun f _ => hF f, ?_⟩
  rw [hsem, h]
  exact hk
theorem wpListIn_want {F : Fence} {n : Nat} {ops : Array Oper} {Q : Exit → Act → World → Prop} {a : Act} {w : World} {rest : List Oper} {o : Oper} (hw : Region.wanted o (yielded ops a.tmps) = true)
    (h : o.wpIn F n Tryz.prog a w (wpListIn F n Tryz.prog ops Q rest) Q) : wpListIn F n Tryz.prog ops Q (o :: rest) a w := by
  simp only [wpListIn, hw, if_true]; exact h

section
variable {F : Fence} {n : Nat} {ops : Array Oper} {rest : List Oper} {o : Oper} {a : Act} {w : World} {Q : Exit → Act → World → Prop}
theorem inLoadS (hF : ∀ f, F.fn f) (hw : Region.wanted o (yielded ops a.tmps) = true) (x : Operand) (ho : o.op = .load 59 x) (hsem : o.semAt F.round a.eval = execOp a.eval o) (b off : Nat) (hx : a.eval x = .pointer (some ⟨b, off, none⟩)) (s : List Int) (hs : Sec s) (hA : w.rangeAt b off (u8s s))
    (h : wpListIn F n Tryz.prog ops Q rest (a.put o.dst (secV s)) w) : wpListIn F n Tryz.prog ops Q (o :: rest) a w := by
  refine wpListIn_want hw (wpIn_value (v := secV s) hF hsem ?_ h)
  unfold execOp
  have := run_loadVar_mid (P := Tryz.prog) w b off 59 (u8s s) _ hA Tryz.underlying59 rfl (by rw [u8s_len, hs.1]; exact Tryz.info38)
  simp only [ho, hx, Instr.loadAt, Instr.sureAddr, Sem.run_bind, Sem.run_pure, Result.andThen_ok, this]
  rfl
theorem inAllocS (hF : ∀ f, F.fn f) (hw : Region.wanted o (yielded ops a.tmps) = true) (ho : o.op = .alloc 59) (hsem : o.semAt F.round a.eval = execOp a.eval o)
    (h : wpListIn F n Tryz.prog ops Q rest (a.put o.dst (.pointer (some ⟨w.heap.size, 0, none⟩))) (w.alloc (.cells (u8s nought).toArray 59))) : wpListIn F n Tryz.prog ops Q (o :: rest) a w := by
  refine wpListIn_want hw (wpIn_value hF hsem ?_ h)
  unfold execOp
  simp only [ho, Sem.run_bind, run_alloc38, Result.andThen_ok]
  rfl
theorem inStoreS (hF : ∀ f, F.fn f) (hw : Region.wanted o (yielded ops a.tmps) = true) (x y : Operand) (ho : o.op = .store 59 x y) (hsem : o.semAt F.round a.eval = execOp a.eval o) (b off : Nat) (t : List Int) (hx : a.eval x = .pointer (some ⟨b, off, none⟩)) (hy : a.eval y = secV t) (ht : Sec t) (hA : w.there b off 64)
    (h : wpListIn F n Tryz.prog ops Q rest (a.put o.dst undef) (w.setCells b off (u8s t))) : wpListIn F n Tryz.prog ops Q (o :: rest) a w := by
  refine wpListIn_want hw (wpIn_skip hF hsem ?_ h)
  unfold execOp
  have := run_storeVar_mid (P := Tryz.prog) w b off 59 (u8s t).toArray (by simpa [u8s_len, ht.1] using hA) (by simp only [List.size_toArray, u8s_len, ht.1]; exact Tryz.info38) (all_oneCell_toArray (u8s_one t))
  have hy' : a.eval y = .agg (u8s t).toArray := hy
  simp only [ho, hx, hy', Instr.storeAt, Instr.sureAddr, Sem.run_bind, Sem.run_pure, Result.andThen_ok, this]
end

theorem secs_block {w : World} {g n : Nat} {L : List (List Int)} {ex : List Value} (hL : ∀ s ∈ L, Sec s) (hn : L.length = n) (h : w.heap[g]? = some (.cells (u8s L.flatten ++ ex).toArray 59 (0, 0))) (c : Nat) (hc : n ≤ c) : Secs w (some ⟨g, 0, none⟩) n c L := by
  refine ⟨hn, hL, hc, fun _ => ⟨g, 0, rfl, fun i hi j v hj => ?_⟩⟩
  obtain ⟨pre, post, h2, h3⟩ := flat_range hL i hi
  have hjl : j < (u8s L[i]).length := (List.getElem?_eq_some_iff.1 hj).1
  rw [cell_of_block h, h2, u8s_app, u8s_app, List.append_assoc, List.append_assoc, List.getElem?_toArray, List.getElem?_append_right (by rw [u8s_len]; omega), List.getElem?_append_left (by rw [u8s_len]; omega)]
  rw [u8s_len, h3, ← hj]
  congr 1; omega

theorem secs_new (w : World) (L : List (List Int)) (hL : ∀ s ∈ L, Sec s) : Secs (w.alloc (.cells (u8s L.flatten).toArray 59)) (some ⟨w.heap.size, 0, none⟩) L.length L.length L :=
  secs_block (ex := []) hL rfl (by rw [List.append_nil]; exact heap_alloc_new w _) _ (Nat.le_refl _)

end Go.Proofs.YtcfflbafclmheaaGreatDoor.Dv

/-
  The iterator All: its contract.
-/
namespace Go.Proofs.YtcfflbafclmheaaGreatDoor.Dv
set_option maxRecDepth 100000
open Go.RowKit Go.Shelf
attribute [local go_sem] Oper.semAt_some

theorem wideF (f : FuncId) : Fence.wide.fn f := trivial

set_option maxRecDepth 100000 in
set_option maxHeartbeats 2000000 in
theorem all58_in (n : Nat) (hn : 1 ≤ n) (l q b g : Nat) (D : Dev) (X : List Nat) (J Jx : List Row → World → Prop) (W : World) (hD : Dv W b g D) (hq : W.cell? ⟨q, 0, none⟩ = some (P0 b)) (hX : ∀ k ∈ X, k < W.heap.size)
    (hJ : ∀ s A B, J s A → A.grownBy B none → J s B)
    (hY : ∀ pre (x : Row) W1, J pre W1 → pre.length < D.S.length → YieldAt Fence.wide (n - 1) Tryz.prog l x.vals W1 fun e W' => (e = .returned (.bool true) ∧ J (pre ++ [x]) W' ∧ KeptC X W1 W') ∨ (e = .returned (.bool false) ∧ Jx (pre ++ [x]) W'))
    (h0 : J [] W) :
    CallsIn Fence.wide n Tryz.prog 114 #[.func (.yield l) #[] #[], P0 q] W fun e W' => (∃ v, e = .returned v) ∧
      ((∃ ys, ys = rows D.S hD.ok.sec D.S.length ∧ J ys W') ∨ (∃ pre, (∃ k, k ≤ D.S.length ∧ 0 < k ∧ pre = rows D.S hD.ok.sec k) ∧ Jx pre W')) := by
  obtain ⟨cap, hh, hbd⟩ := hD.lay
  have hc0 := (hh.cells hD.ok).1
  have hs0 := hD.ok.s0
  have hs1 := hD.ok.s1
  have hsec := hD.ok.sec
  have hN := hide (none_no b g D W hD)
  obtain ⟨ex0, hbd0, hbd1, hbd2, hbd3⟩ := hbd
  have hC := hide (cloneSs (some ⟨g, 0, none⟩) D.S.length cap D.S W (secs_block hsec rfl hbd0 cap hbd1) (by omega) (by omega))
  have hFw := wideF
  refine callsIn_of_wp Tryz.func114 rfl trivial ?_ rfl
  simp only [Tryz.ntmps114, List.size_toArray, List.length_cons, List.length_nil, Nat.reduceAdd, Nat.reduceSub, Array.replicate_succ, Array.replicate_zero, List.push_toArray, List.append_toArray, List.nil_append, List.cons_append]
  gi_wp2_with (first | (gi_at_call 54; refine (callsIn_wide.2 (unhide hN)).mono ?_; rintro e w' ⟨rfl, rfl⟩) | (gi_at_call 55; refine (callsIn_wide.2 (unhide hC)).mono ?_; rintro e W1 ⟨c, cap1, ex, rfl, hc1, hc2, hc3, hc4, hc5, hk1⟩))
  have hA : Hid (∀ k (hk : k < D.S.length), W1.rangeAt c (k * 64) (u8s D.S[k])) := fun k hk => Body.range (cap := cap1) ⟨ex, hc2, hc3, hc4, hc5⟩ hsec k hk
  have hJ1 := hJ [] _ W1 h0 (grown_of_kept hk1)
  have hcX : Hid (c ∉ X) := fun h => by have := hX c h; omega
  have hcl := lt_of_block hc2
  clear hN hC hc0 hq hh hk1 h0
  gi_loopw [13] (fun i wr => ∃ k : Nat, k ≤ D.S.length ∧ i = .int .i64 k ∧ J (rows D.S hsec k) wr ∧ Hid (KeptC X W1 wr)) (fun i _ => D.S.length - (intOf i).toNat)
  case atStart => exact ⟨0, by omega, rfl, hJ1, KeptC.refl _ _⟩
  case round =>
    obtain ⟨k, hk, rfl, hJs, hKr⟩ := hrel
    by_cases hlt : k < D.S.length
    · have hr1 : Hid (wr.rangeAt c (k * 64) (u8s D.S[k])) := by
        intro j v hj
        have := (unhide hKr).block c _ _ hc2 (unhide hcX)
        have h2 := Body.range (cap := cap1) ⟨ex, this, hc3, hc4, hc5⟩ hsec k hlt
        exact h2 j v hj
      have hsk := hsec _ (List.getElem_mem hlt)
      have hB : Hid (Box (wr.alloc (.cells (u8s nought).toArray 59)) wr.heap.size nought) := Box.new wr
      have hB2 : Hid (Box ((wr.alloc (.cells (u8s nought).toArray 59)).setCells wr.heap.size 0 (u8s D.S[k])) wr.heap.size D.S[k]) := (unhide hB).put hsk
      have hkw : Kept [] wr ((wr.alloc (.cells (u8s nought).toArray 59)).setCells wr.heap.size 0 (u8s D.S[k])) := ((Kept.refl _ _).alloc _).setCells _ _ (by omega)
      have hJ2 := hJ _ _ _ hJs (grown_of_kept hkw)
      have hKr2 := hide ((unhide hKr).trans (KeptC.of_kept (hkw.mono (Y := X) (by simp))))
      obtain ⟨fn, tmps, assign, body, hy, hR⟩ := hY _ ⟨k, D.S[k], hsk⟩ _ hJ2 (by rw [rows_len]; exact hlt)
      simp only [Row.vals] at hy
      have hkI : (k : Int) < D.S.length := by omega
      clear hkw hJ2
      gi_wp2_with (first | (refine inLoadS wideF (by rfl) (.tmp 16) (by rfl) (by rfl) c (k * 64) (by rfl) D.S[k] hsk ?_ ?_; · exact unhide hr1) | (refine inAllocS wideF (by rfl) (by rfl) (by rfl) ?_) | (refine inStoreS wideF (by rfl) (.tmp 4) (.tmp 17) (by rfl) (by rfl) wr.heap.size 0 D.S[k] (by rfl) (by rfl) hsk ?_ ?_; · exact (unhide hB).at.2.2) | (refine inLoadS wideF (by rfl) (.tmp 4) (by rfl) (by rfl) wr.heap.size 0 (by rfl) D.S[k] hsk ?_ ?_; · exact (unhide hB2).at.2.1))
      refine hR.mono ?_
      rintro e W3 (⟨rfl, hJ3, hk3⟩ | ⟨rfl, hJx3⟩)
      · gi_wp2
        go_roundw
        case rel => exact ⟨k + 1, by omega, by go_num, by rw [rows_succ _ _ _ hlt]; exact hJ3, (unhide hKr2).trans hk3⟩
        case measure => simp [intOf]; omega
      · gi_wp2
        refine bodyPost_ret (results_none rfl _ _ _) rfl ?_
        exact ⟨⟨_, rfl⟩, .inr ⟨_, ⟨k + 1, by omega, by omega, (rows_succ _ _ _ hlt).symm⟩, hJx3⟩⟩
    · obtain rfl : k = D.S.length := by omega
      gi_wp2
      go_end0
      exact ⟨⟨_, rfl⟩, .inl ⟨_, rfl, hJs⟩⟩

end Go.Proofs.YtcfflbafclmheaaGreatDoor.Dv
