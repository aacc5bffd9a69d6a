/-
  MemberNil: what its round leans on.
-/
import Derived.Test.YtcfflbafclmheaaGreatDoorCq

/-
  A drawn region with guards that hold; calls that are refused.
-/
namespace Go.Proofs.YtcfflbafclmheaaGreatDoor
set_option maxRecDepth 100000
set_option linter.unusedSimpArgs false
open Go.RowKit
open Le (Mm wpStoreM wpStoreM1)

def gOk (ops : Array Oper) (us : List (Option Value)) (o : Oper) : Bool := match o.guard with
  | none => true
  | some (i, b) => o.after.any (fun e => Region.binds .any e && e.on == i) && (match us[i]? with | some (some (.bool c)) => c == b | _ => false) && (match ops[i]? with | some p => p.dst.isSome | none => false)
/-- The table fits the region. -/
def okZ (ops : Array Oper) (us : List (Option Value)) : Bool := (List.range ops.size).all (fun j => match ops[j]? with
  | none => false
  | some o => gOk ops us o && o.after.all (fun e => !Region.binds .any e || decide (e.on < j)) && (List.range j).all (fun i => match ops[i]? with
    | none => false
    | some p => p.dst.isNone || p.dst != o.dst))
structure OkZ (ops : Array Oper) (us : List (Option Value)) : Prop where
  guard : ∀ (j : Nat) (o : Oper), ops[j]? = some o → gOk ops us o = true
  back : ∀ (j : Nat) (o : Oper), ops[j]? = some o → ∀ e ∈ o.after, Region.binds .any e = true → e.on < j
  apart : ∀ (i j : Nat) (p o : Oper) (t : Nat), i < j → ops[i]? = some p → ops[j]? = some o → p.dst = some t → o.dst ≠ some t
theorem okZ_spec {ops : Array Oper} {us : List (Option Value)} (h : okZ ops us = true) : OkZ ops us := by
  have hj : ∀ (j : Nat) (o : Oper), ops[j]? = some o → _ := fun j o ho => (List.all_eq_true.1 h) j (List.mem_range.2 (Array.getElem?_eq_some_iff.1 ho).1)
  refine ⟨?_, ?_, ?_⟩
  · intro j o ho
    have := hj j o ho
    simp only [ho, Bool.and_eq_true] at this
    exact this.1.1
  · intro j o ho e he hb
    have := hj j o ho
    simp only [ho, Bool.and_eq_true] at this
    have := (Array.all_eq_true_iff_forall_mem.1 this.1.2) e he
    rw [hb] at this
    simpa using this
  · intro i j p o t hij hp ho hpt hot
    have := hj j o ho
    simp only [ho, Bool.and_eq_true] at this
    have := (List.all_eq_true.1 this.2) i (List.mem_range.2 hij)
    rw [hp] at this
    simp [hpt, hot] at this
theorem wpAny_gz {ops : Array Oper} {Q : Exit → Act → World → Prop} {a0 : Act} {w0 : World} (n : Nat) (hn : ops.size = n) (us : List (Option Value)) (hok : okZ ops us = true) (hu : us.length = n)
    (hsl : ops.all (fun o => match o.dst with | none => true | some t => decide (t < a0.tmps.size)) = true) (J : Array Bool → (Nat → Value) → World → Prop) (hJ0 : J (Array.replicate n false) (fun _ => undef) w0)
    (hop : ∀ (j : Nat) (o : Oper), j < n → ops[j]? = some o → ∀ a w l vs, l.size = n → l.getD j false = false → J l vs w → (∀ t : Nat, ops.toList.all (fun p => p.dst != some t || p.after.any (fun e => Region.binds .any e && e.on == j)) = true → a.eval (.tmp t) = a0.eval (.tmp t)) →
      (∀ (i t : Nat), o.after.any (fun e => Region.binds .any e && e.on == i) = true → ops[i]?.bind (·.dst) = some t → a.eval (.tmp t) = vs i ∧ told us i (vs i)) → (∀ i : Nat, o.after.any (fun e => Region.binds .any e && e.on == i) = true → l.getD i false = true) → (∀ (i : Nat), (match ops[i]? with | none => false | some p => reaches ops j 8 p) = true → l.getD i false = false) →
      o.wp Tryz.prog a w (fun a' w' => ∃ v, a' = a.put o.dst v ∧ told us j v ∧ J (l.setIfInBounds j true) (fun i => if i = j then v else vs i) w') Q)
    (hQ : ∀ l vs w, (∀ j, j < n → l.getD j false = true) → J l vs w → (∀ j, j < n → told us j (vs j)) → Q .normal (putAll a0 ops.toList ((List.range n).map vs)) w) :
    wpAny Tryz.prog .any ops Q n (Array.replicate n false) a0 w0 := by
  subst hn
  have K := okZ_spec hok
  have hsl' : ∀ o ∈ ops, ∀ t, o.dst = some t → t < a0.tmps.size := by
    intro o ho t ht
    have := (Array.all_eq_true_iff_forall_mem.1 hsl) o ho
    rw [ht] at this
    simpa using this
  let I : Array Bool → Act → World → Prop := fun l a w => l.size = ops.size ∧ a.defers = a0.defers ∧ a.tmps.size = a0.tmps.size ∧ (∀ t, (∀ (i : Nat) (p : Oper), ops[i]? = some p → p.dst = some t → l.getD i false = false) → a.tmps[t]? = a0.tmps[t]?) ∧ (∀ (i : Nat) (p : Oper), ops[i]? = some p → l.getD i false = true → ∀ e ∈ p.after, Region.binds .any e = true → l.getD e.on false = true) ∧
    ∃ vs : Nat → Value, (∀ (j : Nat) (o : Oper) (t : Nat), ops[j]? = some o → o.dst = some t → l.getD j false = true → a.tmps[t]? = some (vs j)) ∧ (∀ j : Nat, l.getD j false = true → told us j (vs j)) ∧ J l vs w
  have hrep : ∀ j, (Array.replicate ops.size false).getD j false = false := by
    intro j
    rw [Array.getD_eq_getD_getElem?, Array.getElem?_replicate]
    split <;> rfl
  refine wpAny_inv I ?_ ?_ ops.size _ a0 w0 ⟨by simp, rfl, rfl, fun _ _ => rfl, (fun i p _ hl => by rw [hrep] at hl; cases hl), fun _ => undef, (fun j o t ho ht hl => by rw [hrep] at hl; cases hl), (fun j hl => by rw [hrep] at hl; cases hl), hJ0⟩ (by simp)
  · rintro l a w ⟨i1, i2, i3, i4, i8, vs, i5, i7, i6⟩ j hj
    obtain ⟨hjl, o, ho, hdeps⟩ := mem_ready.1 hj
    have hjs : j < ops.size := (Array.getElem?_eq_some_iff.1 ho).1
    have hjf : l.getD j false = false := by
      simp only [Array.getD_eq_getD_getElem?] at hjl ⊢
      rw [Array.getElem?_eq_getElem (by omega)] at hjl ⊢
      simpa using hjl
    have hdep : ∀ i : Nat, o.after.any (fun e => Region.binds .any e && e.on == i) = true → l.getD i false = true := by
      intro i hi
      obtain ⟨k, hk, hb⟩ := Array.any_eq_true.1 hi
      have he := Array.getElem_mem hk
      obtain ⟨e, hee⟩ : ∃ e, o.after[k] = e := ⟨_, rfl⟩
      rw [hee] at hb he
      simp only [Bool.and_eq_true, beq_iff_eq] at hb
      have := hdeps e he hb.1
      rwa [hb.2] at this
    have hin : ∀ (i s : Nat), o.after.any (fun e => Region.binds .any e && e.on == i) = true → ops[i]?.bind (·.dst) = some s → a.eval (.tmp s) = vs i ∧ told us i (vs i) := by
      intro i s hi hs
      cases hq : ops[i]? with
      | none => rw [hq] at hs; cases hs
      | some p =>
        rw [hq] at hs
        have hv := i5 i p s hq hs (hdep i hi)
        exact ⟨by simp [Act.eval, Array.getD_eq_getD_getElem?, hv], i7 i (hdep i hi)⟩
    have next : ∀ v w', told us j v → J (l.setIfInBounds j true) (fun i => if i = j then v else vs i) w' → I (l.setIfInBounds j true) (a.put o.dst v) w' := by
      intro v w' hv hJ
      refine ⟨by simp [i1], by rw [put_defers]; exact i2, by rw [put_size]; exact i3, ?_, ?_, _, ?_, ?_, hJ⟩
      · intro s hs
        have hns : o.dst ≠ some s := by
          intro e
          have := hs j o ho e
          rw [getD_setD (by omega), if_pos rfl] at this
          cases this
        rw [put_other _ _ _ _ hns]
        refine i4 s fun i p hp hd => ?_
        have := hs i p hp hd
        rw [getD_setD (by omega)] at this
        split at this
        · cases this
        · exact this
      · intro i p hp hl e he hb
        rw [getD_setD (by omega)] at hl ⊢
        by_cases hij : i = j
        · subst hij
          rw [ho] at hp; cases hp
          rw [hdeps e he hb]
          split <;> rfl
        · rw [if_neg hij] at hl
          rw [i8 i p hp hl e he hb]
          split <;> rfl
      · intro i p s hp hs hl
        rw [getD_setD (by omega)] at hl
        by_cases hij : i = j
        · subst hij
          rw [ho] at hp; cases hp
          simp only [if_true]
          rw [hs]
          exact put_same _ _ _ (by rw [i3]; exact hsl' o (Array.mem_of_getElem? ho) s hs)
        · rw [if_neg hij] at hl
          simp only [if_neg hij]
          rw [put_other _ _ _ _ (by
            rcases Nat.lt_or_gt_of_ne hij with h | h
            · exact K.apart i j p o s h hp ho hs
            · exact fun e => K.apart j i o p s h ho hp e hs)]
          exact i5 i p s hp hs hl
      · intro i hl
        rw [getD_setD (by omega)] at hl
        by_cases hij : i = j
        · subst hij
          simp only [if_true]
          exact hv
        · rw [if_neg hij] at hl
          simp only [if_neg hij]
          exact i7 i hl
    unfold wpOp
    rw [ho]
    simp only
    have hout : ∀ s : Nat, ops.toList.all (fun p => p.dst != some s || p.after.any (fun e => Region.binds .any e && e.on == j)) = true → a.eval (.tmp s) = a0.eval (.tmp s) := by
      intro s hs
      have := i4 s (fun i p hp e => by
        have h1 := (List.all_eq_true.1 hs) p (by simpa using Array.mem_of_getElem? hp)
        rw [e] at h1
        simp only [bne_self_eq_false, Bool.false_or] at h1
        obtain ⟨q, hq, hb⟩ := Array.any_eq_true.1 h1
        simp only [Bool.and_eq_true, beq_iff_eq] at hb
        cases hli : l.getD i false with
        | false => rfl
        | true =>
          have := i8 i p hp hli _ (Array.getElem_mem hq) hb.1
          rw [hb.2, hjf] at this
          cases this)
      simp [Act.eval, Array.getD_eq_getD_getElem?, this]
    have hnot : ∀ (i : Nat), (match ops[i]? with | none => false | some p => reaches ops j 8 p) = true → l.getD i false = false := by
      intro i hi
      cases hp : ops[i]? with
      | none => rw [hp] at hi; cases hi
      | some p =>
        rw [hp] at hi
        cases hli : l.getD i false with
        | false => rfl
        | true =>
          have := reach_listed i8 8 p (i8 i p hp hli) hi
          rw [hjf] at this
          cases this
    have hwt : Region.wanted o (yielded ops a.tmps) = true := by
      have hg := K.guard j o ho
      unfold gOk at hg
      unfold Region.wanted
      cases hgd : o.guard with
      | none => rfl
      | some ib =>
        obtain ⟨i, b⟩ := ib
        rw [hgd] at hg
        simp only [Bool.and_eq_true] at hg
        obtain ⟨⟨g1, g2⟩, g3⟩ := hg
        cases hp : ops[i]? with
        | none => rw [hp] at g3; cases g3
        | some p =>
          rw [hp] at g3
          obtain ⟨t, ht⟩ := Option.isSome_iff_exists.1 g3
          have h9 := hin i t g1 (by rw [hp]; exact ht)
          have hv := i5 i p t hp ht (hdep i g1)
          cases hui : us[i]? with
          | none => rw [hui] at g2; cases g2
          | some u =>
            rw [hui] at g2
            cases u with
            | none => cases g2
            | some x =>
              cases x with
              | bool c =>
                have hvb : vs i = .bool c := told_is _ h9.2 hui
                rw [hvb] at hv
                simp only [beq_iff_eq] at g2
                subst g2
                simp [yielded, hp, ht, hv]
              | _ => cases g2
    rw [if_pos hwt]
    exact .inl (Oper.wp_mono (fun a' w' ⟨v, e, hv, hJ⟩ => by rw [e]; exact next v w' hv hJ) (hop j o hjs ho a w l vs i1 hjf i6 hout hin hdep hnot))
  · rintro l a w ⟨i1, i2, i3, i4, i8, vs, i5, i7, i6⟩ hr
    have hall : ∀ n j, j < n → j < ops.size → l.getD j false = true := by
      intro n
      induction n with
      | zero => intro j hj; omega
      | succ n ih =>
        intro j hj hjs
        cases hlj : l.getD j false with
        | true => rfl
        | false =>
          exfalso
          have hmem : j ∈ Region.ready .any ops l := by
            rw [mem_ready]
            refine ⟨?_, ops[j], Array.getElem?_eq_getElem hjs, fun e he hb => ?_⟩
            · simp only [Array.getD_eq_getD_getElem?] at hlj ⊢
              rw [Array.getElem?_eq_getElem (by omega)] at hlj ⊢
              simpa using hlj
            · have := K.back j ops[j] (Array.getElem?_eq_getElem hjs) e he hb
              exact ih e.on (by omega) (by omega)
          rw [hr] at hmem
          cases hmem
    have hl := fun j (hj : j < ops.size) => hall (j + 1) j (by omega) hj
    have ha : a = putAll a0 ops.toList ((List.range ops.size).map vs) := by
      have hs := putAll_size ops.toList ((List.range ops.size).map vs) a0
      have hdst : ∀ (i j : Nat) (p q : Oper) (t : Nat), ops.toList[i]? = some p → ops.toList[j]? = some q → i ≠ j → p.dst = some t → q.dst ≠ some t := by
        intro i j p q t hp hq hij
        rw [Array.getElem?_toList] at hp hq
        rcases Nat.lt_or_gt_of_ne hij with h | h
        · exact K.apart i j p q t h hp hq
        · exact fun e1 e2 => K.apart j i q p t h hq hp e2 e1
      have ht : a.tmps = (putAll a0 ops.toList ((List.range ops.size).map vs)).tmps := by
        apply Array.ext_getElem?
        intro t
        by_cases hx : ∃ (j : Nat) (o : Oper), ops[j]? = some o ∧ o.dst = some t
        · obtain ⟨j, o, ho, hd⟩ := hx
          have hjs : j < ops.size := (Array.getElem?_eq_some_iff.1 ho).1
          have hv := i5 j o t ho hd (hl j hjs)
          have hvv : ((List.range ops.size).map vs)[j]? = some (vs j) := by simp [hjs]
          rw [hv, putAll_sameW ops.toList ((List.range ops.size).map vs) a0 j o (vs j) t (by rw [Array.getElem?_toList]; exact ho) hvv hd (hsl' o (Array.mem_of_getElem? ho) t hd) hdst]
        · have hno : ∀ p ∈ ops.toList, p.dst ≠ some t := by
            intro p hp e
            obtain ⟨j, hj⟩ := List.mem_iff_getElem?.1 hp
            exact hx ⟨j, p, by rw [← Array.getElem?_toList]; exact hj, e⟩
          rw [i4 t (fun i p hp e => absurd e (hno p (by simpa using Array.mem_of_getElem? hp))), putAll_other ops.toList ((List.range ops.size).map vs) a0 t hno]
      cases a
      simp only at ht i2
      cases hp : putAll a0 ops.toList ((List.range ops.size).map vs) with
      | mk tm df =>
        rw [hp] at ht hs
        simp only at ht hs
        rw [ht, i2, hs.2]
    rw [ha]
    exact hQ l vs w hl i6 fun j hj => i7 j (hl j hj)


theorem chg_bad (ao : Option Addr) (o : Option Dv.Dev) (j : Job) (n ep : Int) (more : List Int) (u : Value) (f : FuncId) (cs : Array Value) (w : World) (base : Nat) (L : List (Value × Int)) (hL : Qr w base u L) (hs : L.map Prod.snd = asks o j n ep more) (hmo : more.length ≤ 50) (x : Int) (hx : first0 (asks o j n ep more) = x) (h0 : x ≠ 0) :
    Calls Tryz.prog 74 #[aggV (askC ao j n ep), u, fnV f cs] w fun e w' => e = .returned (.tuple #[aggV (Vi.vwC Vi.zv), .bool false, .int .i64 x]) ∧ Kept [] w w' ∧ True := by
  have hl : L.length = 4 + more.length + 1 := by
    have := congrArg List.length hs
    simp [asks] at this
    omega
  refine (change_no ao j n ep u f cs w base L hL (by omega) (by omega) x (by rw [hs]; exact hx) h0).mono ?_
  rintro e w' ⟨rfl, hk⟩
  exact ⟨rfl, hk, trivial⟩
/-- A device and a job that are refused, with that error. -/
structure Bad (W : World) (ao : Option Addr) (o : Option Dv.Dev) (j : Job) (x : Int) : Prop where
  dq : Dq W (.pointer ao) o
  ne : x ≠ 0
  two : first0 [qa (decide (0 < oSize o)) 1, qa (fitsB o j) 2] = x
theorem Bad.k {W W' : World} {ao : Option Addr} {o : Option Dv.Dev} {j : Job} {x : Int} (h : Bad W ao o j x) (k : Kept [] W W') : Bad W' ao o j x := ⟨h.dq.kept k, h.ne, h.two⟩
theorem first0_pre {A B : List Int} {x : Int} (h : first0 A = x) (h0 : x ≠ 0) : first0 (A ++ B) = x := by
  induction A with
  | nil => exact absurd h.symm h0
  | cons y A ih =>
    rw [List.cons_append]
    unfold first0 at h ⊢
    split
    · rename_i e
      rw [if_pos e] at h
      exact ih h
    · rename_i e
      rw [if_neg e] at h
      exact h
theorem Bad.asks {W : World} {ao : Option Addr} {o : Option Dv.Dev} {j : Job} {x : Int} (h : Bad W ao o j x) (n ep : Int) (more : List Int) : first0 (asks o j n ep more) = x := by
  have e : Go.Proofs.YtcfflbafclmheaaGreatDoor.asks o j n ep more = [qa (decide (0 < oSize o)) 1, qa (fitsB o j) 2] ++ ([qa (nodeB j n) 2, qa (epochB o n ep) 2] ++ more ++ [qa (!oFenced o n ep) 8]) := by simp [Go.Proofs.YtcfflbafclmheaaGreatDoor.asks]
  rw [e]
  exact first0_pre h.two h.ne
theorem join_bad {w : World} {ao : Option Addr} {o : Option Dv.Dev} {j : Job} {x : Int} (h : Bad w ao o j x) (hw0 : 0 < w.heap.size) (n ep : Int) :
    Calls Tryz.prog 32 #[.pointer ao, aggV (jobC j), .int .i64 n, .int .i64 ep] w fun e w' => e = .returned (.tuple #[aggV (Vi.vwC Vi.zv), .bool false, .int .i64 x]) ∧ Kept [] w w' := by
  refine (joinW ao o j n ep w hw0 h.dq [] (Vi.zv, false) x (fun _ => True) (by simp) (fun _ _ _ _ _ _ => trivial) rfl ?_).mono ?_
  · intro W v base L c0 c1 hW hL hs C0 C1
    exact chg_bad ao o j n ep [] v 76 _ W base L hL hs (by simp) x (h.asks n ep []) h.ne
  · rintro e w' ⟨rfl, hk, -⟩
    exact ⟨rfl, hk⟩
theorem open_bad {w : World} {ao : Option Addr} {o : Option Dv.Dev} {j : Job} {x : Int} (h : Bad w ao o j x) (hw0 : 0 < w.heap.size) (n ep : Int) :
    Calls Tryz.prog 34 #[.pointer ao, aggV (jobC j), .int .i64 n, .int .i64 ep] w fun e w' => e = .returned (.tuple #[aggV (Vi.vwC Vi.zv), .bool false, .int .i64 x]) ∧ Kept [] w w' := by
  refine (openW ao o j n ep w hw0 h.dq [] (Vi.zv, false) x (fun _ => True) (by simp) (fun _ _ _ _ _ _ => trivial) rfl ?_).mono ?_
  · intro W v base L c0 c1 c2 c3 hW hL hs C0 C1 C2 C3
    exact chg_bad ao o j n ep [] v 87 _ W base L hL hs (by simp) x (h.asks n ep []) h.ne
  · rintro e w' ⟨rfl, hk, -⟩
    exact ⟨rfl, hk⟩
theorem out_bad {w : World} {ao : Option Addr} {o : Option Dv.Dev} {j : Job} {x : Int} (h : Bad w ao o j x) (hw0 : 0 < w.heap.size) (n ep who : Int) :
    Calls Tryz.prog 33 #[.pointer ao, aggV (jobC j), .int .i64 n, .int .i64 ep, .int .i64 who] w fun e w' => e = .returned (.tuple #[aggV (Vi.vwC Vi.zv), .bool false, .int .i64 x]) ∧ Kept [] w w' := by
  refine (outW ao o j n ep who w hw0 h.dq [] (Vi.zv, false) x (fun _ => True) (by simp) (fun _ _ _ _ _ _ => trivial) rfl ?_).mono ?_
  · intro W v base L c1 c2 c3 c4 hW hL hs C1 C2 C3 C4
    exact chg_bad ao o j n ep _ v 80 _ W base L hL hs (by simp) x (h.asks n ep _) h.ne
  · rintro e w' ⟨rfl, hk, -⟩
    exact ⟨rfl, hk⟩
/-- told over a row whose first question refuses, or else its second. -/
theorem told_two (bq : Nat) (L : List (Value × Int)) (F : List (FuncId × Array Value)) (W0 : World) (hL : L.length = 4) (hF : F.length = 2) (x : Int) (hx0 : x ≠ 0) (hs : first0 ((L.map Prod.snd).take 2) = x) (hq : ∀ p ∈ L, Ques W0 p.1 p.2) (BQ : Rg W0 bq (L.map Prod.fst ++ F.map fun q => fnV q.1 q.2)) :
    Calls Tryz.prog 67 #[.slice (some ⟨bq, 0, none⟩) 6 6] W0 fun e W' => ∃ y, e = .returned (.int .i64 y) ∧ Kept [] W0 W' ∧ y = x := by
  obtain ⟨qs, e, hqs⟩ := ques_list L hq
  have hql : qs.length = 4 := by
    have := congrArg List.length e
    simp at this
    omega
  refine told67 bq 6 6 (qs ++ F) W0 (by simp [hql, hF]) (by omega) (fun k W => k ≤ 1 ∧ Kept [] W0 W ∧ ∀ y ∈ (L.map Prod.snd).take k, y = 0) (fun y W' => Kept [] W0 W' ∧ y = x) ⟨by omega, Kept.refl _ _, by simp⟩ ?_ ?_ ?_
  · intro k W hI
    rw [List.map_append, ← e]
    exact BQ.kept hI.2.1 (by simp)
  · rintro k f cs W hk ⟨hk1, hW, h0⟩
    rw [List.getElem?_append_left (by omega)] at hk
    obtain ⟨y, hy, hent, hcl⟩ := hqs k f cs hk
    refine ⟨hent, (hcl W (K92.of hW)).mono ?_⟩
    rintro e W' ⟨rfl, hk'⟩
    refine ⟨y, rfl, ?_⟩
    have ht : ((L.map Prod.snd).take 2)[k]? = some y := by rw [List.getElem?_take_of_lt (by omega)]; exact hy
    by_cases hz : y = 0
    · refine .inl ⟨hz, ?_, hW.trans hk', fun u hu => ?_⟩
      · rcases Nat.lt_or_ge k 1 with h1 | h1
        · omega
        · exfalso
          have h9 : first0 ((L.map Prod.snd).take 2) = 0 := first0_all _ (fun u hu => by
            have hk1' : k = 1 := by omega
            subst hk1'
            rw [List.take_add_one, hy] at hu
            rcases List.mem_append.1 hu with hu | hu
            · exact h0 u hu
            · simp at hu; omega)
          rw [hs] at h9
          exact hx0 h9
      · rw [List.take_add_one, hy] at hu
        rcases List.mem_append.1 hu with hu | hu
        · exact h0 u hu
        · simp at hu; omega
    · refine .inr ⟨hz, hW.trans hk', ?_⟩
      rw [← hs]
      exact (first0_at _ k y (fun u hu => h0 u (by rw [List.take_take, Nat.min_eq_left (by omega)] at hu; exact hu)) ht hz).symm
  · rintro W ⟨h6, -⟩
    omega
theorem say_bad {w : World} {ao : Option Addr} {o : Option Dv.Dev} {j : Job} {x : Int} (h : Bad w ao o j x) (n : Int) (lx : Le.Le) :
    Calls Tryz.prog 31 #[.pointer ao, aggV (jobC j), .int .i64 n, aggV lx.C] w fun e w' => e = .returned (.int .i64 x) ∧ Kept [] w w' := by
  refine (sayW ao o j n lx w h.dq [] x (fun _ => True) ?_).mono ?_
  · intro W p b1 b2 b3 b4 b5 L hM hL hs hq hB
    refine (told_two p L [(69, #[P0 b4, P0 b5]), (71, #[P0 b2, P0 b3, P0 b1, P0 b4, P0 b5])] W hL rfl x h.ne (by rw [hs]; exact h.two) hq (Rg.of hB)).mono ?_
    rintro e W' ⟨y, rfl, hk, rfl⟩
    exact ⟨rfl, hk.mono (by simp), trivial⟩
  · rintro e w' ⟨rfl, hk, -⟩
    exact ⟨rfl, hk⟩
theorem view_bad {w : World} {ao : Option Addr} {o : Option Dv.Dev} {j : Job} {x : Int} (h : Bad w ao o j x) (hF : Vi.First w) :
    Calls Tryz.prog 13 #[.pointer ao, aggV (jobC j)] w fun e w' => e = .returned (.tuple #[aggV (Vi.vwC Vi.zv), .int .i64 x]) ∧ Kept [] w w' := by
  have := view13 (.pointer ao) o j w h.dq hF
  have e : mview o j = (Vi.zv, x) := by unfold mview; rw [h.two, if_neg h.ne]
  rw [e] at this
  exact this
theorem lease_bad {w : World} {ao : Option Addr} {o : Option Dv.Dev} {j : Job} {x : Int} (h : Bad w ao o j x) (n : Int) :
    Calls Tryz.prog 30 #[.pointer ao, aggV (jobC j), .int .i64 n] w fun e w' => e = .returned (.tuple #[aggV Le.le0.C, .int .i64 x]) ∧ Kept [] w w' := by
  have := lease30 (.pointer ao) o j n w h.dq
  have e : mlease o j n = (Le.le0, x) := by
    unfold mlease
    have h2 := first0_pre (B := [qa (nodeB j n) 2]) h.two h.ne
    rw [List.cons_append, List.cons_append, List.nil_append] at h2
    rw [h2, if_neg h.ne]
  rw [e] at this
  exact this
theorem rl_bad {w : World} {ao : Option Addr} {o : Option Dv.Dev} {j : Job} {x : Int} (h : Bad w ao o j x) (v : Vi.Vw) : rl o j v = [] := by
  unfold rl
  rw [h.two, if_neg h.ne]
theorem all_bad {w : World} {ao : Option Addr} {o : Option Dv.Dev} {j : Job} {x : Int} (h : Bad w ao o j x) (hF : Vi.First w) (v : Vi.Vw) (hv : v.ms.length = 8) :
    Calls Tryz.prog 19 #[.pointer ao, aggV (jobC j), aggV (Vi.vwC v)] w fun e w' => e = .returned (.bool false) ∧ Kept [] w w' := by
  have := all19 (.pointer ao) o j v w h.dq hF hv
  have e : mall o j v = false := by unfold mall; rw [rl_bad h v]; rfl
  rw [e] at this
  exact this
theorem kl1 : kJ1.1.1.ms.length = 8 := by kernel_rfl
theorem kl2 : kO1.1.1.ms.length = 8 := by kernel_rfl
theorem kl3 : kO2.1.1.ms.length = 8 := by kernel_rfl
theorem kl4 : kJ3.1.1.ms.length = 8 := by kernel_rfl
theorem kl5 : kO3.1.1.ms.length = 8 := by kernel_rfl
theorem kl6 : kU.1.1.ms.length = 8 := by kernel_rfl
theorem kl7 : kJ4.1.1.ms.length = 8 := by kernel_rfl
theorem known9 (w : World) (hF : Vi.First w) : Calls Tryz.prog 9 #[] w fun e w' => e = .returned (.bool true) ∧ Kept [] w w' := by
  have k1 := kn1
  have k2 := kn2
  have k3 := kn3
  have k4 := kn4
  have k5 := kn5
  have k6 := kn6
  have k7 := kn7
  simp only [Prod.mk.injEq] at k1 k2 k3 k4 k5 k6 k7
  have hj : jK.may = true := by kernel_rfl
  have e0 : ups (Dv.newDev jK.sectors.1.toNat jK.n.toNat) jK.n.toNat = kD0 := by kernel_rfl
  refine known_walk w hF kD0 kJ1.2.2 kJ2.2.2 kO1.2.2 kS1.2 kO2.2.2 kJ3.2.2 kO3.2.2 kU.2.2 kJ4.2.2 kS2.2 kJ1.1.1 kO1.1.1 kO2.1.1 kJ3.1.1 kO3.1.1 kU.1.1 kJ4.1.1 kO1.1.2 kO3.1.2 kJ4.1.2 kJ3.2.1
    kl1 kl2 kl3 kl4 kl5 kl6 kl7 k1.2.2.1 k1.2.2.2.1 k1.2.2.2.2 k4.2.2.1 k4.2.2.2 k5.2.1 k6.2.2.1 k6.2.2.2.1 k6.2.2.2.2.1 ?_ ?_ ?_ ?_ ?_ ?_ ?_ ?_ ?_ ?_ ?_ ?_ ?_
  · intro W
    have := lnew10 jK hj W
    rw [e0] at this
    exact this
  · intro b g W h hF
    have := view13 (P0 b) (some kD0) jK W ⟨b, g, rfl, h⟩ hF
    rw [kn0] at this
    exact this
  · intro b g W h hF
    have := join32 b g kD0 jK 0 1 W h hF
    rw [show (mjoin kD0 jK 0 1).1.2 = true from k1.1, show (mjoin kD0 jK 0 1).2.1 = 0 from k1.2.1] at this
    exact this
  · intro b g W h hF
    have := join32 b g kJ1.2.2 jK 0 1 W h hF
    rw [show (mjoin kJ1.2.2 jK 0 1).1.2 = false from k2.1, show (mjoin kJ1.2.2 jK 0 1).2.1 = 0 from k2.2.1, show (mjoin kJ1.2.2 jK 0 1).1.1 = kJ1.1.1 from k2.2.2] at this
    exact this
  · intro b g W h hF
    have := open34 b g kJ2.2.2 jK 0 1 W h hF
    rw [show (mopen kJ2.2.2 jK 0 1).2.1 = 11 from k3.1] at this
    exact this
  · intro b g W h hF
    have := say31 b g kO1.2.2 jK 0 ⟨1, 1, 1⟩ W h
    rw [show (msay kO1.2.2 jK 0 ⟨1, 1, 1⟩).1 = 0 from k3.2] at this
    exact this
  · intro b g W h hF
    have := open34 b g kS1.2 jK 0 1 W h hF
    rw [show (mopen kS1.2 jK 0 1).1.2 = true from k4.1, show (mopen kS1.2 jK 0 1).2.1 = 0 from k4.2.1] at this
    exact this
  · intro b g W h hF
    have := join32 b g kO2.2.2 jK 1 1 W h hF
    rw [show (mjoin kO2.2.2 jK 1 1).1.2 = true from k5.1] at this
    exact this
  · intro b g W h hF
    have := open34 b g kJ3.2.2 jK 0 1 W h hF
    rw [show (mopen kJ3.2.2 jK 0 1).2.1 = 6 from k5.2.2] at this
    exact this
  · intro b g W h hF
    have := out33 b g kO3.2.2 jK 1 1 0 W h hF
    rw [show (mOut kO3.2.2 jK 1 1 0).1.2 = true from k6.1, show (mOut kO3.2.2 jK 1 1 0).2.1 = 0 from k6.2.1] at this
    exact this
  · intro b g W h
    have := Dv.epoch19 b g kU.2.2 0 W h
    rw [k6.2.2.2.2.2] at this
    exact this
  · intro b g W h hF
    have := join32 b g kU.2.2 jK 2 5 W h hF
    rw [show (mjoin kU.2.2 jK 2 5).2.1 = 2 from k7.1] at this
    exact this
  · intro b g W h hF
    have := say31 b g kJ4.2.2 jK 0 ⟨1, 2, 0⟩ W h
    rw [show (msay kJ4.2.2 jK 0 ⟨1, 2, 0⟩).1 = 8 from k7.2] at this
    exact this

end Go.Proofs.YtcfflbafclmheaaGreatDoor

/-
  MemberNil: what its round leans on.
-/
namespace Go.Proofs.YtcfflbafclmheaaGreatDoor
set_option maxRecDepth 100000
set_option linter.unusedSimpArgs false
open Go.RowKit
open Le (Mm wpStoreM wpStoreM1)

open Go.Shelf
section
variable {o : Oper} {a : Act} {w : World} {K : Act → World → Prop} {Q : Exit → Act → World → Prop}
theorem o_idx69 (x y : Operand) (ho : o.op = .indexAddr 69 x y) (g m c k : Nat) (hk : k < m) (hx : a.eval x = .slice (some ⟨g, 0, none⟩) m c) (hy : a.eval y = .int .i64 k) (h : K (a.put o.dst (.pointer (some ⟨g, k, none⟩))) w) : o.wp Tryz.prog a w K Q := by
  unfold Oper.wp execOp
  simp only [ho, hx, hy]
  simp [go_sem, hk, Addr.add_lit]
  exact h
theorem o_idx71 (x y : Operand) (ho : o.op = .indexAddr 71 x y) (g m c k : Nat) (hk : k < m) (hx : a.eval x = .slice (some ⟨g, 0, none⟩) m c) (hy : a.eval y = .int .i64 k) (h : K (a.put o.dst (.pointer (some ⟨g, k, none⟩))) w) : o.wp Tryz.prog a w K Q := by
  unfold Oper.wp execOp
  simp only [ho, hx, hy]
  simp [go_sem, hk, Addr.add_lit]
  exact h
theorem o_idx70 (x y : Operand) (ho : o.op = .indexAddr 70 x y) (g m c k : Nat) (hk : k < m) (hx : a.eval x = .slice (some ⟨g, 0, none⟩) m c) (hy : a.eval y = .int .i64 k) (h : K (a.put o.dst (.pointer (some ⟨g, k * 5, none⟩))) w) : o.wp Tryz.prog a w K Q := by
  unfold Oper.wp execOp
  simp only [ho, hx, hy]
  simp [go_sem, hk, Addr.add_lit]
  exact h
theorem o_neqE (x y : Operand) (ho : o.op = .binOp .neq 39 x y 39) (m : Int) (hx : a.eval x = .int .i64 m) (hy : a.eval y = .int .i64 m) (h : K (a.put o.dst (.bool false)) w) : o.wp Tryz.prog a w K Q := by
  unfold Oper.wp execOp
  simp only [ho, hx, hy]
  simp [go_sem]
  exact h
end
def mK : List (Bool × Int) := (true, 1) :: List.replicate 7 (false, 0)
def vK : Vi.Vw := ⟨1, false, 0, mK⟩
theorem bldK26 (w : World) : (Instr.build 26 #[(0, .bool true), (1, .int .i64 1)]).run Tryz.prog w = .ok (aggV (Vi.memC (true, 1))) w := by kernel_rfl
theorem bldK27 (w : World) : (Instr.build 27 #[(0, aggV (Vi.memC (true, 1)))]).run Tryz.prog w = .ok (aggV (Vi.memsC mK)) w := by kernel_rfl
theorem bldK29 (w : World) : (Instr.build 29 #[(0, .int .i64 1), (3, aggV (Vi.memsC mK))]).run Tryz.prog w = .ok (aggV (Vi.vwC vK)) w := by kernel_rfl
theorem bldKL (w : World) : (Instr.build 73 #[(0, .int .i64 1)]).run Tryz.prog w = .ok (aggV (Le.Le.C ⟨1, 0, 0⟩)) w := by kernel_rfl
/-- Only new blocks are written; one is made and filled. -/
@[reducible] def SN (V : World) (T n i : Nat) (d : Nat → Bool) (vs : Nat → Value) (W : World) : Prop := Kept [] V W ∧ (d i = true → ∃ p us, vs i = P0 p ∧ V.heap.size ≤ p ∧ us.length = n ∧ Blk W p T us)
theorem SN.loc {V : World} {T n i : Nat} : ∀ d d' vs vs' W, (∀ k ∈ [i], d k = d' k ∧ vs k = vs' k) → SN V T n i d vs W → SN V T n i d' vs' W := by
  intro d d' vs vs' W H h
  have e := H i (by simp)
  unfold SN at h ⊢
  rw [← e.1, ← e.2]
  exact h
theorem SN.step {V : World} {T n i : Nat} {d : Nat → Bool} {vs : Nat → Value} {W W' : World} (h : SN V T n i d vs W) (k : Kept [] W W') : SN V T n i d vs W' :=
  ⟨h.1.trans k, fun hd => by obtain ⟨p, us, h1, h2, h3, h4⟩ := h.2 hd; exact ⟨p, us, h1, h2, h3, h4.kept k (by simp)⟩⟩
theorem SN.alloc {V : World} {T n i : Nat} {d : Nat → Bool} {vs : Nat → Value} {W : World} (h : SN V T n i d vs W) (us : List Value) (hl : us.length = n) : SN V T n i (fun k => if k = i then true else d k) (fun k => if k = i then P0 W.heap.size else vs k) (W.alloc (.cells us.toArray T)) :=
  ⟨h.1.alloc _, fun _ => ⟨W.heap.size, us, by simp, h.1.size, hl, Blk.new W T us⟩⟩
theorem SN.fill {V : World} {T n i : Nat} {d : Nat → Bool} {vs : Nat → Value} {W : World} (h : SN V T n i d vs W) {p : Nat} {us zs : List Value} (hp : vs i = P0 p) (hge : V.heap.size ≤ p) (hb : Blk W p T us) (hl : us.length = n) (hz : zs.length = n) : SN V T n i d vs (W.setCells p 0 zs) :=
  ⟨h.1.setNew hge, fun _ => ⟨p, zs, hp, hge, hz, hb.put (hl.trans hz.symm)⟩⟩
/-- One of the four rows of the law. -/
structure Rw (V : World) (bl bj bw i : Nat) (ao : Option Addr) (o : Option Dv.Dev) (j : Job) (x : Int) : Prop where
  bad : Bad V ao o j x
  dev : V.cell? ⟨bl, i, none⟩ = some (.pointer ao)
  jobs : V.rangeAt bj (i * 5) (jobC j)
  want : V.cell? ⟨bw, i, none⟩ = some (.int .i64 x)
theorem range_k {V W : World} {b off : Nat} {vs : List Value} (h : V.rangeAt b off vs) (k : Kept [] V W) : W.rangeAt b off vs := fun j v hj => k.cell (h j v hj) (by simp)
theorem Rw.k {V W : World} {bl bj bw i : Nat} {ao : Option Addr} {o : Option Dv.Dev} {j : Job} {x : Int} (h : Rw V bl bj bw i ao o j x) (k : Kept [] V W) : Rw W bl bj bw i ao o j x := ⟨h.bad.k k, k.cell h.dev (by simp), range_k h.jobs k, k.cell h.want (by simp)⟩
theorem wp_loopK {P : Program} {c : Code} {Q : Exit → Act → World → Prop} {a : Act} {w : World} (I : Act → World → Prop) (μ : Act → World → Nat) (h₀ : I a w)
    (round : ∀ a w (K : Act → World → Prop), I a w → (∀ a' w', I a' w' → μ a' w' < μ a w → K a' w') → c.wp P (Exit.then K Q) a w) : (Code.loop c).wp P Q a w :=
  wp_loop I μ h₀ fun a w hI => round a w _ hI (fun _ _ h1 h2 => ⟨h1, h2⟩)
/-- The marks that ranges leave. -/
def marks (Ds : List Nat) : List Deferred := Ds.map fun D => { target := .collected D, args := #[] }
structure Mks (w W : World) (Ds : List Nat) : Prop where
  nd : Ds.Nodup
  ats : ∀ D ∈ Ds, w.heap.size ≤ D ∧ W.heap[D]? = some (.deferred (some []))
theorem Mks.kept0 {w W W' : World} {Ds : List Nat} (h : Mks w W Ds) (hk : Kept [] W W') : Mks w W' Ds := ⟨h.nd, fun D hD => ⟨(h.ats D hD).1, hk.heap (h.ats D hD).2 (by simp)⟩⟩
theorem Mks.cons {w W : World} {Ds : List Nat} {D : Nat} {W0 : World} (h : Mks w W0 Ds) (hk : Kept [] W0 W) (h1 : W0.heap.size ≤ D) (h2 : w.heap.size ≤ D) (h3 : W.heap[D]? = some (.deferred (some []))) : Mks w W (D :: Ds) := by
  refine ⟨List.nodup_cons.2 ⟨fun hm => ?_, h.nd⟩, fun D' hD' => ?_⟩
  · have := lt_of_block (h.ats D hm).2
    omega
  · rcases List.mem_cons.1 hD' with rfl | hD'
    · exact ⟨h2, h3⟩
    · exact ⟨(h.ats D' hD').1, hk.heap (h.ats D' hD').2 (by simp)⟩
theorem res7 (w : World) (b : Nat) (v : Bool) (tmps : Array Value) (h6 : tmps[0]?.getD undef = P0 b) (hb : Blk w b 4 [.bool v]) : (results Tryz.f7 tmps).run Tryz.prog w = .ok (.bool v) w := by
  have hc := fits_cell hb 0 _ rfl
  simp [results, Tryz.results7, h6, asAddr, go_sem, hc]
/-- How the law leaves: all marks are taken. -/
theorem leaves7 {w : World} {br : Nat} {tmps : Array Value} (h6 : tmps[0]?.getD undef = P0 br) : ∀ (Ds : List Nat) (W : World), Mks w W Ds → Blk W br 4 [.bool true] → Kept [] w W →
    LeavesInM Fence.wide 3 Tryz.prog Tryz.f7 tmps (fun e w' => e = .returned (.bool true) ∧ Kept [] w w') (marks Ds) .returning W := by
  intro Ds
  induction Ds with
  | nil => exact fun W _ hb hk => ⟨_, res7 _ _ _ _ h6 hb, rfl, hk⟩
  | cons D Ds ih =>
    intro W hm hb hk
    obtain ⟨g1, g2⟩ := hm.ats D (by simp)
    have hb1 : Blk (W.putObj D (.deferred none)) br 4 [.bool true] := Vi.blk_grown hb (grownBy_putObj' W D _) (fun r e => by cases e; exact ⟨_, g2, rfl⟩)
    have k1 : Kept [] w (W.putObj D (.deferred none)) := Vi.kept_kept (B := w.heap.size) hk (grownBy_putObj' _ D (.deferred none)) (Nat.le_refl _) (fun r e => by cases e; exact g1)
    refine ⟨by simp, .inl ⟨_, _, rfl, run_takeDeferred g2, ih _ ⟨(List.nodup_cons.1 hm.nd).2, fun D' hD' => ⟨(hm.ats D' (by simp [hD'])).1, ?_⟩⟩ hb1 k1⟩⟩
    rw [World.putObj_heap_other (fun e => (List.nodup_cons.1 hm.nd).1 (by rw [← e]; exact hD'))]
    exact (hm.ats D' (by simp [hD'])).2

/-- The slots that a round leaves. -/
structure Xs where
  f10 : Value
  f11 : Value
  f12 : Value
  f13 : Value
  f14 : Value
  f15 : Value
  f16 : Value
  f17 : Value
  f18 : Value
  f19 : Value
  f20 : Value
  f21 : Value
  f22 : Value
  f23 : Value
  f24 : Value
  f25 : Value
  f26 : Value
  f27 : Value
  f28 : Value
  f29 : Value
  f30 : Value
  f31 : Value
  f32 : Value
  f33 : Value
  f34 : Value
  f35 : Value
  f36 : Value
  f37 : Value
  f38 : Value
  f39 : Value
  f40 : Value
  f41 : Value
  f42 : Value
  f43 : Value
  f44 : Value
  f45 : Value
  f46 : Value
  f47 : Value
  f48 : Value
  f49 : Value
  f50 : Value
  f51 : Value
  f52 : Value
  f53 : Value
  f54 : Value
  f55 : Value
  f56 : Value
  f57 : Value
  f58 : Value
  f59 : Value
  f60 : Value
  f61 : Value
  f62 : Value
  f63 : Value
  f64 : Value
  f65 : Value
  f66 : Value
  f67 : Value
  f68 : Value
  f69 : Value
  f70 : Value
  f71 : Value
  f72 : Value
  f73 : Value
  f74 : Value
  f75 : Value
  f76 : Value
  f77 : Value
  f78 : Value
  f79 : Value
  f80 : Value
  f81 : Value
  f82 : Value
  f83 : Value
  f84 : Value
  f85 : Value
  f86 : Value
  f87 : Value
  f88 : Value
  f89 : Value
  f90 : Value
  f91 : Value
  f92 : Value
  f93 : Value
  f94 : Value
  f95 : Value
  f96 : Value
  f97 : Value
  f98 : Value
  f99 : Value
  f100 : Value
  f101 : Value
  f102 : Value
  f103 : Value
  f104 : Value
  f105 : Value
  f106 : Value
  f107 : Value
  f108 : Value
  f109 : Value
  f110 : Value
  f111 : Value
  f112 : Value
  f113 : Value
  f114 : Value
  f115 : Value
  f116 : Value
  f117 : Value
  f118 : Value
  f119 : Value
  f120 : Value
  f121 : Value
  f122 : Value
  f123 : Value
  f124 : Value
  f125 : Value
  f126 : Value
  f127 : Value
  f128 : Value
  f129 : Value
  f130 : Value
  f131 : Value
  f132 : Value
  f133 : Value
  f134 : Value
  f135 : Value
  f136 : Value
  f137 : Value
  f138 : Value
  f139 : Value
  f140 : Value
  f141 : Value
  f142 : Value
  f143 : Value
  f144 : Value
  f145 : Value
  f146 : Value
  f147 : Value
  f148 : Value
  f149 : Value
  f150 : Value
  f151 : Value
  f152 : Value
  f153 : Value
  f154 : Value
  f155 : Value
  f156 : Value
  f157 : Value
  f158 : Value
  f159 : Value
  f160 : Value
  f161 : Value
  f162 : Value
  f163 : Value
  f164 : Value
  f165 : Value
  f166 : Value
  f167 : Value
  f168 : Value
  f169 : Value
  f170 : Value
  f171 : Value
  f172 : Value
  f173 : Value
  f174 : Value
  f175 : Value
  f176 : Value
  f177 : Value
  f178 : Value
  f179 : Value
  f180 : Value
  f181 : Value
  f182 : Value
  f183 : Value
  f184 : Value
  f185 : Value
  f186 : Value
  f187 : Value
  f188 : Value
  f189 : Value
  f190 : Value
  f191 : Value
  f192 : Value
  f193 : Value
  f194 : Value
  f195 : Value
  f196 : Value
  f197 : Value
  f198 : Value
  f199 : Value
  f200 : Value
  f201 : Value
  f202 : Value
  f203 : Value
  f204 : Value
  f205 : Value
  f206 : Value
  f207 : Value
  f208 : Value
  f209 : Value
  f210 : Value

end Go.Proofs.YtcfflbafclmheaaGreatDoor
