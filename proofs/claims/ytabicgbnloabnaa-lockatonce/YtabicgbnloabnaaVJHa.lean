import Derived.Test.YtabicgbnloabnaaVAf
import Derived.Test.YtabicgbnloabnaaVPc
import Derived.Test.YtabicgbnloabnaaVKn
namespace Go.Proofs.Ytabicgbnloabnaa
set_option maxRecDepth 100000
set_option linter.unusedSimpArgs false
open Go.RowKit
variable {A : Nat} {base W W' : World} {z b : Nat} {m o : Nat → Int} {s : Lo} {ln : Value}
set_option maxHeartbeats 2000000 in
theorem does23_6 (t n : Nat) (c d p : Int) (ht : t < 8) (hn : n < 8) (w : World) (h : Nk A base w z b m o s [] ln) : Calls Try.prog 23 #[P0 z, aggV (Od.C (⟨6, t, c, d, n, p⟩ : Od))] w (DN (A + 1) base w z b ln m o (s, [], []) true) := by
  have HN := hide h
  have q1 : decide ((t : Int) < 0) = false := by simp
  have q2 : decide ((t : Int) ≥ 8) = false := by simp; omega
  have q3 : decide ((8 : Int) ≤ (t : Int)) = false := by simp; omega
  have q4 : decide ((n : Int) < 0) = false := by simp
  have q5 : decide ((n : Int) ≥ 8) = false := by simp; omega
  have q6 : decide ((8 : Int) ≤ (n : Int)) = false := by simp; omega
  clear h
  go_enter Try.func23, Try.ntmps23
  go_wp2_with (
    first
    | (refine wpBoxV rfl (.tmp 1) rfl (Od.C (⟨6, t, c, d, n, p⟩ : Od)) rfl ?_
       intro W1 b3 e1 B1 K1
       replace HN := hide ((unhide HN).step K1)
       have c0 : W1.cell? ⟨b3, 0, none⟩ = some (.int .i64 6) := fits_cell B1 0 _ rfl
       have c1 : W1.cell? ⟨b3, 1, none⟩ = some (.int .i64 t) := fits_cell B1 1 _ rfl
       have c4 : W1.cell? ⟨b3, 4, none⟩ = some (.int .i64 n) := fits_cell B1 4 _ rfl
       have HK := hide (K1.mono (Y := z :: b :: spare ln) (by simp))
       clear e1 B1 K1
       refine Stp.go ?_))
  constructor
  go_wp2_with fail
  go_ret2
  have hN := unhide HN
  exact ⟨_, ln, rfl, New.nil _ _ _ _, ⟨hN.lb, hN.lw, hN.gd.mono (by omega), hN.zb, hN.b0, hN.z0, hN.l0, hN.kept⟩, unhide HK⟩
theorem does23 (x : Od) (ht : 0 ≤ x.t ∧ x.t < 8) (hn : 0 ≤ x.n ∧ x.n < 8) (hk : x.k = 1 ∨ x.k = 2 ∨ x.k = 3 ∨ x.k = 4 ∨ x.k = 5 ∨ x.k = 6) (hR : x.k ≠ 6 → rightB (doP m o s x).1 = true) (w : World) (h : Nk A base w z b m o s [] ln) (hA : A ≤ 800) : Calls Try.prog 23 #[P0 z, aggV x.C] w (DN (A + 1) base w z b ln (doP m o s x).1 (doP m o s x).2.1 (doP m o s x).2.2 true) := by
  obtain ⟨k, t, c, d, n, p⟩ := x
  obtain ⟨t, rfl⟩ : ∃ u : Nat, t = (u : Int) := ⟨t.toNat, by have : 0 ≤ t := ht.1; omega⟩
  obtain ⟨n, rfl⟩ : ∃ u : Nat, n = (u : Int) := ⟨n.toNat, by have : 0 ≤ n := hn.1; omega⟩
  have ht8 : t < 8 := by have : (t : Int) < 8 := ht.2; omega
  have hn8 : n < 8 := by have : (n : Int) < 8 := hn.2; omega
  simp only at hk
  rcases hk with rfl | rfl | rfl | rfl | rfl | rfl
  · have e : doP m o s ⟨1, t, c, d, n, p⟩ = (upd m t d, upd o t c, gotP s [] t c) := by unfold doP; rw [if_pos rfl]; rfl
    rw [e] at hR ⊢
    have h9 := does23_1 t n c d p ht8 hn8 w h hA
    rw [hR (by simp)] at h9
    exact h9
  · have e : doP m o s ⟨2, t, c, d, n, p⟩ = (upd (upd m t 1) n 1, upd (upd o t c) n c, gotP s [] n c) := by unfold doP; rw [if_neg (by simp), if_pos rfl]; rfl
    rw [e] at hR ⊢
    have h9 := does23_2 t n c d p ht8 hn8 w h hA
    rw [hR (by simp)] at h9
    exact h9
  · have e : doP m o s ⟨3, t, c, d, n, p⟩ = (upd (upd m t 0) n 2, upd o n c, gotP s [] n c) := by unfold doP; rw [if_neg (by simp), if_neg (by simp), if_pos rfl]; rfl
    rw [e] at hR ⊢
    have h9 := does23_3 t n c d p ht8 hn8 w h hA
    rw [hR (by simp)] at h9
    exact h9
  · have e : doP m o s ⟨4, t, c, d, n, p⟩ = (upd m t 0, o, goneP s [] t c) := by unfold doP; rw [if_neg (by simp), if_neg (by simp), if_neg (by simp), if_pos rfl]; rfl
    rw [e] at hR ⊢
    have h9 := does23_4 t n c d p ht8 hn8 w h hA
    rw [hR (by simp)] at h9
    exact h9
  · have e : doP m o s ⟨5, t, c, d, n, p⟩ = (m, o, wroteP s [] t (o t) 1) := by unfold doP; rw [if_neg (by simp), if_neg (by simp), if_neg (by simp), if_neg (by simp), if_pos rfl]; rfl
    rw [e] at hR ⊢
    have h9 := does23_5 t n c d p ht8 hn8 w h hA
    rw [hR (by simp)] at h9
    exact h9
  · have e : doP m o s ⟨6, t, c, d, n, p⟩ = (m, o, (s, [], [])) := by unfold doP; rw [if_neg (by simp), if_neg (by simp), if_neg (by simp), if_neg (by simp), if_neg (by simp)]
    rw [e]
    exact does23_6 t n c d p ht8 hn8 w h
theorem Fl.len {tg : Option (Nat × Int)} {k : Nat} {T : List Od} (h : Fl tg k s m o T) : T.length ≤ k := by
  cases h with
  | done h h2 hT hk jv sy g => exact hk
  | sh h hs hk jv sy g => obtain ⟨x, hx⟩ := send_one (s := s) (k := 2) (d := 1); rw [hx]; exact hk
  | ex h hw hh hk jv sy g => obtain ⟨x, hx⟩ := send_one (s := s) (k := 3) (d := 2); rw [hx]; exact hk
  | drops h hw hs hk hd jv sy g => omega
  | fl h ho hk jv sy g => simp; omega
theorem Nk.tight {B : Nat} (h : Nk A base W z b m o s [] ln) (hB : s.op ≤ (B : Int)) : Nk B base W z b m o s [] ln := ⟨h.lb, h.lw, ⟨h.gd.ok, h.gd.all, h.gd.op0, by simpa using hB, by simp⟩, h.zb, h.b0, h.z0, h.l0, h.kept⟩
end Go.Proofs.Ytabicgbnloabnaa
namespace Go.Proofs.Ytabicgbnloabnaa
set_option maxRecDepth 100000
set_option linter.unusedSimpArgs false
open Go.RowKit
def RowS {α:Type} (C:α→List Value) (m:Nat) (W:World) (ao:Option Addr) (l:List α):Prop:=∀i x,l[i]?=some x→∃b o,ao=some ⟨b,o,none⟩∧∀c u,(C x)[c]?=some u→W.cell? ⟨b,o+i*m+c,none⟩=some u
theorem RowS.kept {α:Type} {C:α→List Value} {m:Nat} {W W':World} {ao:Option Addr} {l:List α} (h:RowS C m W ao l) (hk:Kept [] W W'):RowS C m W' ao l:=by
 intro i x hx
 obtain⟨b,o,e,h1⟩:=h i x hx
 exact⟨b,o,e,fun c u hu=>hk.cell (h1 c u hu) (by simp)⟩
section
variable {ops:Array Oper} {rest:List Oper} {op o:Oper} {a:Act} {w:World} {K:Act→World→Prop} {Q:Exit→Act→World→Prop}
end
end Go.Proofs.Ytabicgbnloabnaa
