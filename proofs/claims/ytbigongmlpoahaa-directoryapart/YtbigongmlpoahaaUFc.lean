import Derived.Test.YtbigongmlpoahaaUFb
namespace Go.Proofs.Ytbigongmlpoahaa
set_option maxRecDepth 100000
set_option linter.unusedSimpArgs false
open Go.RowKit
def Lo.sup (s:Lo) (n:Nat):Int:=if s.ow≠ -1∧s.ow≠(n:Int) then s.ow else if s.ho n then -1 else low s.ho
def Lo.oth (s:Lo):Nat→Bool:=if s.su= -1 then upd s.ho s.hn false else upd (upd s.ho s.hn false) s.su.toNat false
theorem sup_a (s:Lo) (ln:Value) (b n:Nat) (w:World) (h:Blk w b 108 (s.C ln)) (hn:n<8) (h1:¬s.ow= -1) (h2:¬s.ow=(n:Int)):Calls Try.prog 98 #[P0 b,.int .i64 n] w fun e w'=>e= .returned (.int .i64 s.ow)∧Kept [] w w':=by
 have c2:=fits_cell h 2 _ rfl
 have H:=hide h
 have hnI:(n:Int)<8:=by omega
 have h1a:decide (s.ow= -1)=false:=nef_a h1
 have h1b:(s.ow == -1)=false:=nef_b h1
 have h1c:(s.ow != -1)=true:=nef_c h1
 have h2a:decide (s.ow=(n:Int))=false:=nef_a h2
 have h2b:(s.ow == (n:Int))=false:=nef_b h2
 have h2c:(s.ow !=(n:Int))=true:=nef_c h2
 clear h
 go_enter Try.func98,Try.ntmps98
 go_wp2_with fail
 go_ret
 exact⟨rfl,Kept.refl _ _⟩
theorem sup_b1 (s:Lo) (ln:Value) (b n:Nat) (w:World) (h:Blk w b 108 (s.C ln)) (hn:n<8) (h1:s.ow= -1) (h3:s.ho n=true):Calls Try.prog 98 #[P0 b,.int .i64 n] w fun e w'=>e= .returned (.int .i64 (-1))∧Kept [] w w':=by
 have c2:=fits_cell h 2 _ rfl
 have H:=hide h
 have hnI:(n:Int)<8:=by omega
 rw [h1] at c2
 have c3:=h.ho hn
 rw [h3] at c3
 clear h
 go_enter Try.func98,Try.ntmps98
 go_wp2_with fail
 go_ret
 exact⟨rfl,Kept.refl _ _⟩
theorem sup_b2 (s:Lo) (ln:Value) (b n:Nat) (w:World) (h:Blk w b 108 (s.C ln)) (hn:n<8) (h1:s.ow= -1) (h3:s.ho n=false):Calls Try.prog 98 #[P0 b,.int .i64 n] w fun e w'=>e= .returned (.int .i64 (low s.ho))∧Kept [] w w':=by
 have c2:=fits_cell h 2 _ rfl
 have H:=hide h
 have hnI:(n:Int)<8:=by omega
 rw [h1] at c2
 have c3:=h.ho hn
 rw [h3] at c3
 clear h
 go_enter Try.func98,Try.ntmps98
 go_wp2_with (first |(refine wpLoadA row73 rfl (.tmp 30) rfl b 3 rfl (b8 s.ho) rfl (unhide H).hoA ?_;refine Stp.go ?_))
 constructor
 go_wp2_with (first |(go_at_call 105;refine(lowest81 s.ho _).mono ?_;rintro e W1 ⟨rfl,K1⟩;have HK:=hide K1;clear K1 c2;refine Stp.go ?_))
 constructor
 go_wp2_with fail
 go_ret
 exact⟨rfl,unhide HK⟩
theorem sup_c1 (s:Lo) (ln:Value) (b n:Nat) (w:World) (h:Blk w b 108 (s.C ln)) (hn:n<8) (h1:s.ow=(n:Int)) (h3:s.ho n=true):Calls Try.prog 98 #[P0 b,.int .i64 n] w fun e w'=>e= .returned (.int .i64 (-1))∧Kept [] w w':=by
 have c2:=fits_cell h 2 _ rfl
 have H:=hide h
 have hnI:(n:Int)<8:=by omega
 rw [h1] at c2
 have h0:¬(n:Int)= -1:=by omega
 have h0a:decide ((n:Int)= -1)=false:=nef_a h0
 have h0b:((n:Int) == -1)=false:=nef_b h0
 have h0c:((n:Int) != -1)=true:=nef_c h0
 have c3:=h.ho hn
 rw [h3] at c3
 clear h
 go_enter Try.func98,Try.ntmps98
 go_wp2_with fail
 go_ret
 exact⟨rfl,Kept.refl _ _⟩
theorem sup_c2 (s:Lo) (ln:Value) (b n:Nat) (w:World) (h:Blk w b 108 (s.C ln)) (hn:n<8) (h1:s.ow=(n:Int)) (h3:s.ho n=false):Calls Try.prog 98 #[P0 b,.int .i64 n] w fun e w'=>e= .returned (.int .i64 (low s.ho))∧Kept [] w w':=by
 have c2:=fits_cell h 2 _ rfl
 have H:=hide h
 have hnI:(n:Int)<8:=by omega
 rw [h1] at c2
 have h0:¬(n:Int)= -1:=by omega
 have h0a:decide ((n:Int)= -1)=false:=nef_a h0
 have h0b:((n:Int) == -1)=false:=nef_b h0
 have h0c:((n:Int) != -1)=true:=nef_c h0
 have c3:=h.ho hn
 rw [h3] at c3
 clear h
 go_enter Try.func98,Try.ntmps98
 go_wp2_with (first |(refine wpLoadA row73 rfl (.tmp 30) rfl b 3 rfl (b8 s.ho) rfl (unhide H).hoA ?_;refine Stp.go ?_))
 constructor
 go_wp2_with (first |(go_at_call 105;refine(lowest81 s.ho _).mono ?_;rintro e W1 ⟨rfl,K1⟩;have HK:=hide K1;clear K1 c2;refine Stp.go ?_))
 constructor
 go_wp2_with fail
 go_ret
 exact⟨rfl,unhide HK⟩
theorem sup74 (s:Lo) (ln:Value) (b n:Nat) (w:World) (h:Blk w b 108 (s.C ln)) (hn:n<8):Calls Try.prog 98 #[P0 b,.int .i64 n] w fun e w'=>e= .returned (.int .i64 (s.sup n))∧Kept [] w w':=by
 unfold Lo.sup
 by_cases h1:s.ow= -1
 · rw [if_neg (by simp [h1])]
   cases h3:s.ho n with
   | true=>exact sup_b1 s ln b n w h hn h1 h3
   | false=>exact sup_b2 s ln b n w h hn h1 h3
 · by_cases h2:s.ow=(n:Int)
   · rw [if_neg (by simp [h2])]
     cases h3:s.ho n with
     | true=>exact sup_c1 s ln b n w h hn h2 h3
     | false=>exact sup_c2 s ln b n w h hn h2 h3
   · rw [if_pos ⟨h1,h2⟩]
     exact sup_a s ln b n w h hn h1 h2
theorem res75 (w:World) (z:Nat) (vs:List Value) (tmps:Array Value) (h2:tmps[2]?.getD undef=P0 z) (hl:vs.length=8) (hb:Blk w z 106 vs):(results Try.f99 tmps).run Try.prog w= .ok (aggV vs) w:=by
 have:=loadV row73 hl hb
 simp [results,Try.results99,h2,this,asAddr]
theorem res41 (w:World) (z:Nat) (vs:List Value) (tmps:Array Value) (h2:tmps[2]?.getD undef=P0 z) (hl:vs.length=8) (hb:Blk w z 106 vs):(results Try.f69 tmps).run Try.prog w= .ok (aggV vs) w:=by
 have:=loadV row73 hl hb
 simp [results,Try.results69,h2,this,asAddr]
theorem res15 (w:World) (z:Nat) (vs:List Value) (tmps:Array Value) (h2:tmps[2]?.getD undef=P0 z) (hl:vs.length=17) (hb:Blk w z 40 vs):(results Try.f36 tmps).run Try.prog w= .ok (aggV vs) w:=by
 have:=loadV row43 hl hb
 simp [results,Try.results36,h2,this,asAddr]
theorem b8_set (f:Nat→Bool) (n:Nat) (h:n<8) (v:Bool):(b8 f).set n (.bool v)=b8 (upd f n v):=by
 rcases (show n=0∨n=1∨n=2∨n=3∨n=4∨n=5∨n=6∨n=7 by omega) with rfl | rfl | rfl | rfl | rfl | rfl | rfl | rfl <;> rfl
theorem oth_a (s:Lo) (ln:Value) (b:Nat) (w:World) (h:Blk w b 108 (s.C ln)) (hh:s.hn<8) (hs:s.su= -1):Calls Try.prog 99 #[P0 b] w fun e w'=>e= .returned (aggV (b8 (upd s.ho s.hn false)))∧Kept [] w w':=by
 have H:=hide h
 have hhI:(s.hn:Int)<8:=by omega
 have HS:=hide hs
 clear hs
 clear h
 go_enter Try.func99,Try.ntmps99
 have M:Hid (Mm [] w w []):=hide Mm.init
 go_wp2_with (first |(refine wpAllocW (b8 no8) zero73 2 rfl rfl rfl ?_;intro W1 b1 e1 B1 K1;replace M:=hide ((unhide M).new e1 B1 K1);clear e1 B1 K1;refine Stp.go ?_))
 constructor
 go_wp2_with (first |(refine wpLoadA row73 rfl (.tmp 6) rfl b (3) rfl (b8 s.ho) rfl (((unhide H).kept (unhide M).kept (by simp)).hoA) ?_;refine Stp.go ?_))
 constructor
 go_wp2_with (first |(refine wpNew row73 (b8 no8) rfl zero73 3 rfl rfl rfl (.tmp 7) rfl rfl rfl (b8 s.ho) rfl (b8_one _) (by kernel_rfl) (by kernel_rfl) ?_;intro W2 b2 e2 B2 K2;replace M:=hide ((unhide M).new e2 B2 K2);clear e2 B2 K2;have c28:W2.cell? ⟨b,28,none⟩=some (.int .i64 s.hn):=fits_cell ((unhide H).kept (unhide M).kept (by simp)) 28 _ rfl;have c31:W2.cell? ⟨b,31,none⟩=some (.int .i64 (-1)):=fits_cell ((unhide H).kept (unhide M).kept (by simp)) 31 _ (by rw [← unhide HS];rfl);refine Stp.go ?_))
 constructor
 go_wp2_with (first |(refine wpSt1 size4 rfl (.tmp 13) (.const (.bool false)) rfl rfl b2 (s.hn) 1 (.bool false) ⟨rfl,rfl⟩ rfl rfl (unhide M) rfl (hh) (b8_set _ _ hh _) ?_;intro W3 N3;replace M:Hid (Mm [] w W3 [(b1,106,b8 no8),(b2,106,b8 (upd s.ho s.hn false))]):=hide N3;clear N3 c28 c31;have c31:W3.cell? ⟨b,31,none⟩=some (.int .i64 (-1)):=fits_cell ((unhide H).kept (unhide M).kept (by simp)) 31 _ (by rw [← unhide HS];rfl);have c28:=True.intro;refine Stp.go ?_))
 constructor
 go_wp2_with (first |(refine wpLoadA row73 rfl (.tmp 3) rfl b2 0 rfl (b8 (upd s.ho s.hn false)) rfl ((unhide M).at 1 _ rfl).range ?_;refine Stp.go ?_))
 constructor
 go_wp2_with (first |(refine wpStoreM row73 rfl (.tmp 2) (.tmp 24) rfl rfl b1 0 (b8 (upd s.ho s.hn false)) rfl rfl rfl (b8_one _) (unhide M) rfl rfl ?_;intro W4 N4;replace M:Hid (Mm [] w W4 [(b1,106,b8 (upd s.ho s.hn false)),(b2,106,b8 (upd s.ho s.hn false))]):=hide N4;clear N4;refine Stp.go ?_))
 constructor
 go_wp2_with fail
 refine bodyPost_ret (v:=aggV (b8 (upd s.ho s.hn false))) ?_ rfl ?_
 · exact res75 _ _ _ _ rfl rfl ((unhide M).at 0 _ rfl)
 exact⟨rfl,(unhide M).kept⟩
theorem oth_b (s:Lo) (ln:Value) (b:Nat) (w:World) (h:Blk w b 108 (s.C ln)) (hh:s.hn<8) (n:Nat) (hn:n<8) (hs:s.su=(n:Int)):Calls Try.prog 99 #[P0 b] w fun e w'=>e= .returned (aggV (b8 (upd (upd s.ho s.hn false) n false)))∧Kept [] w w':=by
 have H:=hide h
 have hhI:(s.hn:Int)<8:=by omega
 have HS:=hide hs
 clear hs
 have hnI:(n:Int)<8:=by omega
 have h0:¬(n:Int)= -1:=by omega
 have h0a:decide ((n:Int)= -1)=false:=nef_a h0
 have h0b:((n:Int) == -1)=false:=nef_b h0
 have h0c:((n:Int) != -1)=true:=nef_c h0
 clear h
 go_enter Try.func99,Try.ntmps99
 have M:Hid (Mm [] w w []):=hide Mm.init
 go_wp2_with (first |(refine wpAllocW (b8 no8) zero73 2 rfl rfl rfl ?_;intro W1 b1 e1 B1 K1;replace M:=hide ((unhide M).new e1 B1 K1);clear e1 B1 K1;refine Stp.go ?_))
 constructor
 go_wp2_with (first |(refine wpLoadA row73 rfl (.tmp 6) rfl b (3) rfl (b8 s.ho) rfl (((unhide H).kept (unhide M).kept (by simp)).hoA) ?_;refine Stp.go ?_))
 constructor
 go_wp2_with (first |(refine wpNew row73 (b8 no8) rfl zero73 3 rfl rfl rfl (.tmp 7) rfl rfl rfl (b8 s.ho) rfl (b8_one _) (by kernel_rfl) (by kernel_rfl) ?_;intro W2 b2 e2 B2 K2;replace M:=hide ((unhide M).new e2 B2 K2);clear e2 B2 K2;have c28:W2.cell? ⟨b,28,none⟩=some (.int .i64 s.hn):=fits_cell ((unhide H).kept (unhide M).kept (by simp)) 28 _ rfl;have c31:W2.cell? ⟨b,31,none⟩=some (.int .i64 n):=fits_cell ((unhide H).kept (unhide M).kept (by simp)) 31 _ (by rw [← unhide HS];rfl);refine Stp.go ?_))
 constructor
 go_wp2_with (first |(refine wpSt1 size4 rfl (.tmp 13) (.const (.bool false)) rfl rfl b2 (s.hn) 1 (.bool false) ⟨rfl,rfl⟩ rfl rfl (unhide M) rfl (hh) (b8_set _ _ hh _) ?_;intro W3 N3;replace M:Hid (Mm [] w W3 [(b1,106,b8 no8),(b2,106,b8 (upd s.ho s.hn false))]):=hide N3;clear N3 c28 c31;have c31:W3.cell? ⟨b,31,none⟩=some (.int .i64 n):=fits_cell ((unhide H).kept (unhide M).kept (by simp)) 31 _ (by rw [← unhide HS];rfl);have c28:=True.intro;refine Stp.go ?_))
 constructor
 go_wp2_with (first |(refine wpSt1 size4 rfl (.tmp 23) (.const (.bool false)) rfl rfl b2 (n) 1 (.bool false) ⟨rfl,rfl⟩ rfl rfl (unhide M) rfl (hn) (b8_set _ _ hn _) ?_;intro W4 N4;replace M:Hid (Mm [] w W4 [(b1,106,b8 no8),(b2,106,b8 (upd (upd s.ho s.hn false) n false))]):=hide N4;clear N4 c28 c31;have c31:W4.cell? ⟨b,31,none⟩=some (.int .i64 n):=fits_cell ((unhide H).kept (unhide M).kept (by simp)) 31 _ (by rw [← unhide HS];rfl);have c28:=True.intro;refine Stp.go ?_))
 constructor
 go_wp2_with (first |(refine wpLoadA row73 rfl (.tmp 3) rfl b2 0 rfl (b8 (upd (upd s.ho s.hn false) n false)) rfl ((unhide M).at 1 _ rfl).range ?_;refine Stp.go ?_))
 constructor
 go_wp2_with (first |(refine wpStoreM row73 rfl (.tmp 2) (.tmp 24) rfl rfl b1 0 (b8 (upd (upd s.ho s.hn false) n false)) rfl rfl rfl (b8_one _) (unhide M) rfl rfl ?_;intro W5 N5;replace M:Hid (Mm [] w W5 [(b1,106,b8 (upd (upd s.ho s.hn false) n false)),(b2,106,b8 (upd (upd s.ho s.hn false) n false))]):=hide N5;clear N5;refine Stp.go ?_))
 constructor
 go_wp2_with fail
 refine bodyPost_ret (v:=aggV (b8 (upd (upd s.ho s.hn false) n false))) ?_ rfl ?_
 · exact res75 _ _ _ _ rfl rfl ((unhide M).at 0 _ rfl)
 exact⟨rfl,(unhide M).kept⟩
theorem oth75 (s:Lo) (ln:Value) (b:Nat) (w:World) (h:Blk w b 108 (s.C ln)) (hh:s.hn<8) (hs: -1≤s.su∧s.su<8):Calls Try.prog 99 #[P0 b] w fun e w'=>e= .returned (aggV (b8 s.oth))∧Kept [] w w':=by
 unfold Lo.oth
 by_cases h1:s.su= -1
 · rw [if_pos h1];exact oth_a s ln b w h hh h1
 · rw [if_neg h1]
   exact oth_b s ln b w h hh s.su.toNat (by omega) (by omega)
end Go.Proofs.Ytbigongmlpoahaa
