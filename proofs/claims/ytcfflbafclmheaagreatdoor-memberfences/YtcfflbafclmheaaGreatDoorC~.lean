/-
  MemberNil: what its round leans on.
-/
import Derived.Test.YtcfflbafclmheaaGreatDoorCr

/-
  MemberNil: what its round leans on.
-/
namespace Go.Proofs.YtcfflbafclmheaaGreatDoor
set_option maxRecDepth 100000
set_option linter.unusedSimpArgs false
open Go.RowKit
open Le (Mm wpStoreM wpStoreM1)

open Go.Shelf
section
variable {o : Oper} {a : Act} {w : World} {K : Act → World → Prop} {Q : Exit → Act → World → Prop}
theorem o_idx69 (x y : Operand) (ho : o.op = .indexAddr 69 x y) (g m c k : Nat) (hk : k < m) (hx : a.eval x = .slice (some ⟨g, 0, none⟩) m c) (hy : a.eval y = .int .i64 k) (h : K (a.put o.dst (.pointer (some ⟨g, k, none⟩))) w) : o.wp Tryz.prog a w K Q := by
  unfold Oper.wp execOp
  simp only [ho, hx, hy]
  simp [go_sem, hk, Addr.add_lit]
  exact h
theorem o_idx71 (x y : Operand) (ho : o.op = .indexAddr 71 x y) (g m c k : Nat) (hk : k < m) (hx : a.eval x = .slice (some ⟨g, 0, none⟩) m c) (hy : a.eval y = .int .i64 k) (h : K (a.put o.dst (.pointer (some ⟨g, k, none⟩))) w) : o.wp Tryz.prog a w K Q := by
  unfold Oper.wp execOp
  simp only [ho, hx, hy]
  simp [go_sem, hk, Addr.add_lit]
  exact h
theorem o_idx70 (x y : Operand) (ho : o.op = .indexAddr 70 x y) (g m c k : Nat) (hk : k < m) (hx : a.eval x = .slice (some ⟨g, 0, none⟩) m c) (hy : a.eval y = .int .i64 k) (h : K (a.put o.dst (.pointer (some ⟨g, k * 5, none⟩))) w) : o.wp Tryz.prog a w K Q := by
  unfold Oper.wp execOp
  simp only [ho, hx, hy]
  simp [go_sem, hk, Addr.add_lit]
  exact h
theorem o_neqE (x y : Operand) (ho : o.op = .binOp .neq 39 x y 39) (m : Int) (hx : a.eval x = .int .i64 m) (hy : a.eval y = .int .i64 m) (h : K (a.put o.dst (.bool false)) w) : o.wp Tryz.prog a w K Q := by
  unfold Oper.wp execOp
  simp only [ho, hx, hy]
  simp [go_sem]
  exact h
end
def mK : List (Bool × Int) := (true, 1) :: List.replicate 7 (false, 0)
def vK : Vi.Vw := ⟨1, false, 0, mK⟩
theorem bldK26 (w : World) : (Instr.build 26 #[(0, .bool true), (1, .int .i64 1)]).run Tryz.prog w = .ok (aggV (Vi.memC (true, 1))) w := by kernel_rfl
theorem bldK27 (w : World) : (Instr.build 27 #[(0, aggV (Vi.memC (true, 1)))]).run Tryz.prog w = .ok (aggV (Vi.memsC mK)) w := by kernel_rfl
theorem bldK29 (w : World) : (Instr.build 29 #[(0, .int .i64 1), (3, aggV (Vi.memsC mK))]).run Tryz.prog w = .ok (aggV (Vi.vwC vK)) w := by kernel_rfl
theorem bldKL (w : World) : (Instr.build 73 #[(0, .int .i64 1)]).run Tryz.prog w = .ok (aggV (Le.Le.C ⟨1, 0, 0⟩)) w := by kernel_rfl
/-- Only new blocks are written; one is made and filled. -/
@[reducible] def SN (V : World) (T n i : Nat) (d : Nat → Bool) (vs : Nat → Value) (W : World) : Prop := Kept [] V W ∧ (d i = true → ∃ p us, vs i = P0 p ∧ V.heap.size ≤ p ∧ us.length = n ∧ Blk W p T us)
theorem SN.loc {V : World} {T n i : Nat} : ∀ d d' vs vs' W, (∀ k ∈ [i], d k = d' k ∧ vs k = vs' k) → SN V T n i d vs W → SN V T n i d' vs' W := by
  intro d d' vs vs' W H h
  have e := H i (by simp)
  unfold SN at h ⊢
  rw [← e.1, ← e.2]
  exact h
theorem SN.step {V : World} {T n i : Nat} {d : Nat → Bool} {vs : Nat → Value} {W W' : World} (h : SN V T n i d vs W) (k : Kept [] W W') : SN V T n i d vs W' :=
  ⟨h.1.trans k, fun hd => by obtain ⟨p, us, h1, h2, h3, h4⟩ := h.2 hd; exact ⟨p, us, h1, h2, h3, h4.kept k (by simp)⟩⟩
theorem SN.alloc {V : World} {T n i : Nat} {d : Nat → Bool} {vs : Nat → Value} {W : World} (h : SN V T n i d vs W) (us : List Value) (hl : us.length = n) : SN V T n i (fun k => if k = i then true else d k) (fun k => if k = i then P0 W.heap.size else vs k) (W.alloc (.cells us.toArray T)) :=
  ⟨h.1.alloc _, fun _ => ⟨W.heap.size, us, by simp, h.1.size, hl, Blk.new W T us⟩⟩
theorem SN.fill {V : World} {T n i : Nat} {d : Nat → Bool} {vs : Nat → Value} {W : World} (h : SN V T n i d vs W) {p : Nat} {us zs : List Value} (hp : vs i = P0 p) (hge : V.heap.size ≤ p) (hb : Blk W p T us) (hl : us.length = n) (hz : zs.length = n) : SN V T n i d vs (W.setCells p 0 zs) :=
  ⟨h.1.setNew hge, fun _ => ⟨p, zs, hp, hge, hz, hb.put (hl.trans hz.symm)⟩⟩
/-- One of the four rows of the law. -/
structure Rw (V : World) (bl bj bw i : Nat) (ao : Option Addr) (o : Option Dv.Dev) (j : Job) (x : Int) : Prop where
  bad : Bad V ao o j x
  dev : V.cell? ⟨bl, i, none⟩ = some (.pointer ao)
  jobs : V.rangeAt bj (i * 5) (jobC j)
  want : V.cell? ⟨bw, i, none⟩ = some (.int .i64 x)
theorem range_k {V W : World} {b off : Nat} {vs : List Value} (h : V.rangeAt b off vs) (k : Kept [] V W) : W.rangeAt b off vs := fun j v hj => k.cell (h j v hj) (by simp)
theorem Rw.k {V W : World} {bl bj bw i : Nat} {ao : Option Addr} {o : Option Dv.Dev} {j : Job} {x : Int} (h : Rw V bl bj bw i ao o j x) (k : Kept [] V W) : Rw W bl bj bw i ao o j x := ⟨h.bad.k k, k.cell h.dev (by simp), range_k h.jobs k, k.cell h.want (by simp)⟩
theorem wp_loopK {P : Program} {c : Code} {Q : Exit → Act → World → Prop} {a : Act} {w : World} (I : Act → World → Prop) (μ : Act → World → Nat) (h₀ : I a w)
    (round : ∀ a w (K : Act → World → Prop), I a w → (∀ a' w', I a' w' → μ a' w' < μ a w → K a' w') → c.wp P (Exit.then K Q) a w) : (Code.loop c).wp P Q a w :=
  wp_loop I μ h₀ fun a w hI => round a w _ hI (fun _ _ h1 h2 => ⟨h1, h2⟩)
/-- The marks that ranges leave. -/
def marks (Ds : List Nat) : List Deferred := Ds.map fun D => { target := .collected D, args := #[] }
structure Mks (w W : World) (Ds : List Nat) : Prop where
  nd : Ds.Nodup
  ats : ∀ D ∈ Ds, w.heap.size ≤ D ∧ W.heap[D]? = some (.deferred (some []))
theorem Mks.kept0 {w W W' : World} {Ds : List Nat} (h : Mks w W Ds) (hk : Kept [] W W') : Mks w W' Ds := ⟨h.nd, fun D hD => ⟨(h.ats D hD).1, hk.heap (h.ats D hD).2 (by simp)⟩⟩
theorem Mks.cons {w W : World} {Ds : List Nat} {D : Nat} {W0 : World} (h : Mks w W0 Ds) (hk : Kept [] W0 W) (h1 : W0.heap.size ≤ D) (h2 : w.heap.size ≤ D) (h3 : W.heap[D]? = some (.deferred (some []))) : Mks w W (D :: Ds) := by
  refine ⟨List.nodup_cons.2 ⟨fun hm => ?_, h.nd⟩, fun D' hD' => ?_⟩
  · have := lt_of_block (h.ats D hm).2
    omega
  · rcases List.mem_cons.1 hD' with rfl | hD'
    · exact ⟨h2, h3⟩
    · exact ⟨(h.ats D' hD').1, hk.heap (h.ats D' hD').2 (by simp)⟩
theorem res7 (w : World) (b : Nat) (v : Bool) (tmps : Array Value) (h6 : tmps[0]?.getD undef = P0 b) (hb : Blk w b 4 [.bool v]) : (results Tryz.f7 tmps).run Tryz.prog w = .ok (.bool v) w := by
  have hc := fits_cell hb 0 _ rfl
  simp [results, Tryz.results7, h6, asAddr, go_sem, hc]
/-- How the law leaves: all marks are taken. -/
theorem leaves7 {w : World} {br : Nat} {tmps : Array Value} (h6 : tmps[0]?.getD undef = P0 br) : ∀ (Ds : List Nat) (W : World), Mks w W Ds → Blk W br 4 [.bool true] → Kept [] w W →
    LeavesInM Fence.wide 3 Tryz.prog Tryz.f7 tmps (fun e w' => e = .returned (.bool true) ∧ Kept [] w w') (marks Ds) .returning W := by
  intro Ds
  induction Ds with
  | nil => exact fun W _ hb hk => ⟨_, res7 _ _ _ _ h6 hb, rfl, hk⟩
  | cons D Ds ih =>
    intro W hm hb hk
    obtain ⟨g1, g2⟩ := hm.ats D (by simp)
    have hb1 : Blk (W.putObj D (.deferred none)) br 4 [.bool true] := Vi.blk_grown hb (grownBy_putObj' W D _) (fun r e => by cases e; exact ⟨_, g2, rfl⟩)
    have k1 : Kept [] w (W.putObj D (.deferred none)) := Vi.kept_kept (B := w.heap.size) hk (grownBy_putObj' _ D (.deferred none)) (Nat.le_refl _) (fun r e => by cases e; exact g1)
    refine ⟨by simp, .inl ⟨_, _, rfl, run_takeDeferred g2, ih _ ⟨(List.nodup_cons.1 hm.nd).2, fun D' hD' => ⟨(hm.ats D' (by simp [hD'])).1, ?_⟩⟩ hb1 k1⟩⟩
    rw [World.putObj_heap_other (fun e => (List.nodup_cons.1 hm.nd).1 (by rw [← e]; exact hD'))]
    exact (hm.ats D' (by simp [hD'])).2

/-- The slots that a round leaves. -/
structure Xs where
  f10 : Value
  f11 : Value
  f12 : Value
  f13 : Value
  f14 : Value
  f15 : Value
  f16 : Value
  f17 : Value
  f18 : Value
  f19 : Value
  f20 : Value
  f21 : Value
  f22 : Value
  f23 : Value
  f24 : Value
  f25 : Value
  f26 : Value
  f27 : Value
  f28 : Value
  f29 : Value
  f30 : Value
  f31 : Value
  f32 : Value
  f33 : Value
  f34 : Value
  f35 : Value
  f36 : Value
  f37 : Value
  f38 : Value
  f39 : Value
  f40 : Value
  f41 : Value
  f42 : Value
  f43 : Value
  f44 : Value
  f45 : Value
  f46 : Value
  f47 : Value
  f48 : Value
  f49 : Value
  f50 : Value
  f51 : Value
  f52 : Value
  f53 : Value
  f54 : Value
  f55 : Value
  f56 : Value
  f57 : Value
  f58 : Value
  f59 : Value
  f60 : Value
  f61 : Value
  f62 : Value
  f63 : Value
  f64 : Value
  f65 : Value
  f66 : Value
  f67 : Value
  f68 : Value
  f69 : Value
  f70 : Value
  f71 : Value
  f72 : Value
  f73 : Value
  f74 : Value
  f75 : Value
  f76 : Value
  f77 : Value
  f78 : Value
  f79 : Value
  f80 : Value
  f81 : Value
  f82 : Value
  f83 : Value
  f84 : Value
  f85 : Value
  f86 : Value
  f87 : Value
  f88 : Value
  f89 : Value
  f90 : Value
  f91 : Value
  f92 : Value
  f93 : Value
  f94 : Value
  f95 : Value
  f96 : Value
  f97 : Value
  f98 : Value
  f99 : Value
  f100 : Value
  f101 : Value
  f102 : Value
  f103 : Value
  f104 : Value
  f105 : Value
  f106 : Value
  f107 : Value
  f108 : Value
  f109 : Value
  f110 : Value
  f111 : Value
  f112 : Value
  f113 : Value
  f114 : Value
  f115 : Value
  f116 : Value
  f117 : Value
  f118 : Value
  f119 : Value
  f120 : Value
  f121 : Value
  f122 : Value
  f123 : Value
  f124 : Value
  f125 : Value
  f126 : Value
  f127 : Value
  f128 : Value
  f129 : Value
  f130 : Value
  f131 : Value
  f132 : Value
  f133 : Value
  f134 : Value
  f135 : Value
  f136 : Value
  f137 : Value
  f138 : Value
  f139 : Value
  f140 : Value
  f141 : Value
  f142 : Value
  f143 : Value
  f144 : Value
  f145 : Value
  f146 : Value
  f147 : Value
  f148 : Value
  f149 : Value
  f150 : Value
  f151 : Value
  f152 : Value
  f153 : Value
  f154 : Value
  f155 : Value
  f156 : Value
  f157 : Value
  f158 : Value
  f159 : Value
  f160 : Value
  f161 : Value
  f162 : Value
  f163 : Value
  f164 : Value
  f165 : Value
  f166 : Value
  f167 : Value
  f168 : Value
  f169 : Value
  f170 : Value
  f171 : Value
  f172 : Value
  f173 : Value
  f174 : Value
  f175 : Value
  f176 : Value
  f177 : Value
  f178 : Value
  f179 : Value
  f180 : Value
  f181 : Value
  f182 : Value
  f183 : Value
  f184 : Value
  f185 : Value
  f186 : Value
  f187 : Value
  f188 : Value
  f189 : Value
  f190 : Value
  f191 : Value
  f192 : Value
  f193 : Value
  f194 : Value
  f195 : Value
  f196 : Value
  f197 : Value
  f198 : Value
  f199 : Value
  f200 : Value
  f201 : Value
  f202 : Value
  f203 : Value
  f204 : Value
  f205 : Value
  f206 : Value
  f207 : Value
  f208 : Value
  f209 : Value
  f210 : Value

end Go.Proofs.YtcfflbafclmheaaGreatDoor
