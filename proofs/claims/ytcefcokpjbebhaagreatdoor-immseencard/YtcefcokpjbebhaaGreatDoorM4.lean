/-
  By of the document's answer of layer 3 (radomeref03): a number of eight words by two to a power, rounded and bounded; by py/By.py.
-/
import Derived.Test.YtcefcokpjbebhaaGreatDoorM3
import Derived.Deep.DeepCutAuto
import Derived.Deep.RegionWith
set_option linter.unusedSimpArgs false
set_option linter.unusedVariables false
set_option maxHeartbeats 2000000
set_option maxRecDepth 20000
namespace Go.Proofs.YtcefcokpjbebhaaGreatDoor
section
open Go.RowKit Lg
attribute [local go_sem ↓] Go.wp_at_zero Go.wp_at_succ
namespace Lg
def res(s:Bool)(Q:Int):Value:= .tuple #[.int .i64 (if Q<4611686018427387904 then(if s then-Q else Q) else(if s then-4611686018427387903 else 4611686018427387903)), .bool (decide (¬Q<4611686018427387904))]
theorem Qw(s:Bool)(Q:Int)(h:Q<4611686018427387904):res s Q= .tuple #[.int .i64 (if s then-Q else Q), .bool false]:=by
 unfold res;rw [if_pos h];simp [h]
theorem Lm(s:Bool)(Q:Int)(h: ¬Q<4611686018427387904):res s Q= .tuple #[.int .i64 (if s then-4611686018427387903 else 4611686018427387903), .bool true]:=by
 unfold res;rw [if_neg h];simp;omega
theorem mg(s:Bool){Q z Z:Int}(hZ:Z=Q)(h:Q<4611686018427387904)(hz:z=if s then-Q else Q):Ending.returned (.tuple #[.int .i64 z, .bool false])= .returned (res s Z):=by rw [hZ,Qw s Q h,hz]
theorem iZ(s:Bool){Q Z:Int}(hZ:Z=Q)(h:4611686018427387904<=Q):Ending.returned (.tuple #[.int .i64 (if s then-4611686018427387903 else 4611686018427387903), .bool true])= .returned (res s Z):=by rw [hZ,Lm s Q om1]
theorem xI{Q:Int}(h0:0<=Q)(h:Q<4611686018427387904):wd 0 Q+wd 1 Q*4294967296=Q:=by
 show Q%4294967296+Q/4294967296%4294967296*4294967296=Q;omega
theorem sS{Q:Int}(h0:0<=Q)(h:Q<4611686018427387904):0<=wd 1 Q/\wd 1 Q<=1073741823:=by
 show 0<=Q/4294967296%4294967296/\Q/4294967296%4294967296<=1073741823;omega
end Lg
theorem uJ(Q:Int)(w:World)(hQ:In8 Q):
 Calls Tryz.prog 261 #[.agg #[.int .u64 (wd 0 Q), .int .u64 (wd 1 Q), .int .u64 (wd 2 Q), .int .u64 (wd 3 Q), .int .u64 (wd 4 Q), .int .u64 (wd 5 Q), .int .u64 (wd 6 Q), .int .u64 (wd 7 Q)], .agg #[.int .u64 0, .int .u64 1073741824, .int .u64 0, .int .u64 0, .int .u64 0, .int .u64 0, .int .u64 0, .int .u64 0]] w fun e w'=>e= .returned (.bool (decide (Q<4611686018427387904)))/\Below w.heap.size w w':=by
 have h:=Am Q 4611686018427387904 w hQ (by unfold In8;omega);rw [show wd 0 4611686018427387904=0 by decide,show wd 1 4611686018427387904=1073741824 by decide,show wd 2 4611686018427387904=0 by decide,show wd 3 4611686018427387904=0 by decide,show wd 4 4611686018427387904=0 by decide,show wd 5 4611686018427387904=0 by decide,show wd 6 4611686018427387904=0 by decide,show wd 7 4611686018427387904=0 by decide] at h;exact h
theorem Qx{p:Prop}(h:p:=by
 refine⟨k+1,om1,by go_num,((HS.out _ _ (HS.out _ _ hQ _) _).congr ?_).drew,(hA9.other _ (show w.heap.size≠w.heap.size+1 by omega)).other _ (show w.heap.size≠w.heap.size+1 by omega),((hbel.setCell (p:=⟨w.heap.size+1,k,none⟩) (show w.heap.size<=w.heap.size+1 by omega) _).setCell (p:=⟨w.heap.size+1,k,none⟩) (show w.heap.size<=w.heap.size+1 by omega) _).drew⟩;intro j _;unfold Aw;by_cases e:j=k
 · subst e;rw [if_pos rfl,if_pos om1,HP.out,HR.out];exact SW.out.symm
 · rw [if_neg e,if_neg e];by_cases e2:j<k
   · rw [if_pos e2,if_pos om1]
   · rw [if_neg e2,if_neg om1]):p:=h
theorem Xh{p:Prop}(h:p:=by
 have w0:=iJ (k) A;have w1:=iJ (k+1) A;have cQ:=hQ.cell (k:=k) om1;have fQ:=hQ.free k;have SW:=Hid.mk'' (uH A D E 0 k hD0 hE0 HDE.out);rw [← HN.out] at SW;have HS:=Hid.mk'' (fun(w':World) (d:Nat->Int) (h:uz w' (w.heap.size+1) d) (v:Int)=>h.set v (k:=k) om1);have TOP:=Hid.mk'' (Lh hA);have cA2:k+1<8->wr.cell? ⟨w.heap.size,1+(k+1),none⟩=some (.int .u64 (wd (k+1) A)):=fun h=>hA9.cell (k:=k+1) h;obtain⟨P,hP⟩: ∃ P,P=wd (k) A:=⟨_,rfl⟩;obtain⟨R,hR⟩: ∃ R,R=wd (k+1) A:=⟨_,rfl⟩;have HR:=Hid.mk'' hR;rw [← hP] at cA w0;rw [← hR] at cA2 w1;have HP:=Hid.mk'' hP;clear hP hR;have p0:0<=P/D:=Int.ediv_nonneg w0.1 om1;have p1:P/D<=4294967295:=Int.le_trans (Int.ediv_le_self D w0.1) w0.2;have r0:0<=R*E:=Int.mul_nonneg w1.1 om1;have r1:R*E<=4294967295*4294967296:=Int.mul_le_mul w1.2 hEW om1 om1;by_cases h2:k+1<8
 · have cA3:=cA2 h2;clear cA2;go_wp2;go_region
   all_goals go_wp2
   all_goals go_roundw
   case rel=>
    exact Qx
   case measure=>simp [intOf];omega
 · clear cA2;go_wp2;go_roundw
   case rel=>
    refine⟨k+1,om1,by go_num,(HS.out _ _ hQ _).congr ?_,hA9.other _ (show w.heap.size≠w.heap.size+1 by omega),hbel.setCell (p:=⟨w.heap.size+1,k,none⟩) (show w.heap.size<=w.heap.size+1 by omega) _⟩;intro j _;unfold Aw;by_cases e:j=k
    · subst e;have z:=TOP.out (j+1) om1;have sw:=SW.out;rw [z,Int.zero_mul] at sw;rw [if_pos rfl,if_pos om1,HP.out];show _=wd j N;rw [sw];simp
    · rw [if_neg e];by_cases e2:j<k
      · rw [if_pos e2,if_pos om1]
      · rw [if_neg e2,if_neg om1]
   case measure=>simp [intOf];omega):p:=h
theorem by_zero(s:Bool)(A D E N:Int)(sh u:Nat)(w:World)(hA:In8 A)(hN:In8 N)(hsh:sh<=31)(hu:sh+u=32)(hD:(2:Int)^sh=D)(hE:(2:Int)^u=E)(HN:Hid (N=A/(4294967296^0*D)))(Hs0:Hid (sh=0)):
 Calls Tryz.prog 183 #[(.agg #[.bool s, .int .u64 (wd 0 A), .int .u64 (wd 1 A), .int .u64 (wd 2 A), .int .u64 (wd 3 A), .int .u64 (wd 4 A), .int .u64 (wd 5 A), .int .u64 (wd 6 A), .int .u64 (wd 7 A)]), .int .i64 (sh:Int)] w fun e w'=>e= .returned (res s N)/\Below w.heap.size w w':=by
 have hD0:0<D:=by rw [← hD];exact Int.pow_pos om1
 have hE0:0<E:=by rw [← hE];exact Int.pow_pos om1
 have HDE:Hid (D*E=4294967296):=Hid.mk'' (by rw [← hD,← hE,← Int.pow_add,hu];rfl)
 have hDW:D<=4294967296:=by
  have:D*1<=D*E:=Int.mul_le_mul_of_nonneg_left om1 om1;rw [HDE.out] at this;omega
 have hEW:E<=4294967296:=by
  have:1*E<=D*E:=Int.mul_le_mul_of_nonneg_right om1 om1;rw [HDE.out] at this;omega
 have hq:(sh:Int)/32=0:=om1;have hr:(sh:Int)%32=(sh:Int):=om1;have hk:32- (sh:Int)=(u:Int):=om1;have s0:(0:Int)<=(sh:Int):=om1;have s1:(sh:Int)<=31:=om1;have u0:(0:Int)<=(u:Int):=om1;have u1:(u:Int)<=32:=om1;clear hu;go_enter Tryz.func183,Tryz.ntmps183
 go_wp2;go_loopw [9] (fun i wr=> ∃ k:Nat,k<=8- 0/\i= .int .i64 (k:Int)/\uz wr (w.heap.size+1) (Aw k (fun j=>wd j N) (fun _=>0))/\o9 wr w.heap.size s (fun j=>wd j A)/\Below w.heap.size w wr) (fun i _=>8- (intOf i).toNat)
 case atStart=>exact⟨0,om1,rfl,EE (w.alloc _) (by simp) _ _ _ _ _ _ _ _,(jG w _ _ _ _ _ _ _ _ _).alloc _,af (af (Below.refl _ _) _) _⟩
 case round=>
  obtain⟨k,hk8,rfl,hQ,hA9,hbel⟩:=hrel;by_cases h8:k<8- 0
  ·have cA:wr.cell? ⟨w.heap.size,1+k,none⟩=some (.int .u64 (wd (k) A)):=hA9.cell (k:=k) om1;exact Xh
  ·have hQN:uz wr (w.heap.size+1) (fun j=>wd j N):=by
    refine hQ.congr ?_;intro j hj;unfold Aw;by_cases e:j<k
    ·rw [if_pos e]
    ·rw [if_neg e];omega
   have hk9:8<=k+0:=om1;clear hQ h8 HDE;have q0:=hQN.cell (k:=0) om1;have q1:=hQN.cell (k:=1) om1;have q2:=hQN.cell (k:=2) om1;have q3:=hQN.cell (k:=3) om1;have q4:=hQN.cell (k:=4) om1;have q5:=hQN.cell (k:=5) om1;have q6:=hQN.cell (k:=6) om1;have q7:=hQN.cell (k:=7) om1;have sA:=hA9.cs;have hs0':(sh:Int)=0:=by have:=Hs0.out;omega
   go_wp2_with fail
   refine(uJ N _ hN).mono ?_;rintro e w9 ⟨rfl,hb9⟩;have t0:=ah hb9 q0;have t1:=ah hb9 q1;have tA:=ah hb9 sA;by_cases hlt:N<4611686018427387904
   ·rw [decide_eq_true hlt];have hw01:=Hid.mk'' (xI (Q:=N) (by have:=hN;unfold In8 at this;omega) hlt);have b0:=iJ 0 (N);have b1:0<=wd 1 (N)/\wd 1 (N)<=1073741823:=sS (by have:=hN;unfold In8 at this;omega) hlt;cases s
    ·go_wp2;go_ret2;exact⟨mg false rfl hlt hw01.out,ae hbel hb9⟩
    ·go_wp2;go_ret2;exact⟨mg true rfl hlt (congrArg (fun z:Int=> -z) hw01.out),ae hbel hb9⟩
   ·rw [decide_eq_false hlt];cases s
    ·go_wp2;go_ret2;exact⟨iZ false rfl om1,ae hbel hb9⟩
    ·go_wp2;go_ret2;exact⟨iZ true rfl om1,ae hbel hb9⟩
namespace Lg
theorem EI{v:Nat}{F:Int}(hv:v<=31)(hF:(2:Int)^v=F):0<F/\F<=2147483648/\IntKind.u64.wrap F=F:=by
 have h1:(2:Nat)^v<=2^31:=Nat.pow_le_pow_right om1 hv;have h2:(2:Int)^v=((2^v:Nat):Int):=by simp
 have h3:=Nat.two_pow_pos v;rw [hF] at h2;refine⟨om1,om1, ?_⟩;rw [IntKind.wrap_u64];omega
theorem uz.keep{w w':World}{b:Nat}{d:Nat->Int}(h:uz w b d)(hb:Below w.heap.size w w'):uz w' b d:=jV.keep h hb
theorem jV.row{w:World}{b:Nat}{x0 x1 x2 x3 x4 x5 x6 x7:Int}(h:jV w b x0 x1 x2 x3 x4 x5 x6 x7)(y0 y1 y2 y3 y4 y5 y6 y7:Int):jV (w.setRow b #[.int .u64 y0, .int .u64 y1, .int .u64 y2, .int .u64 y3, .int .u64 y4, .int .u64 y5, .int .u64 y6, .int .u64 y7]) b y0 y1 y2 y3 y4 y5 y6 y7:=setRow_heap w b _ _ _ (0,0) h
theorem Vf:(Tryz.prog.info? 275).map (·.size)=some 8:=by kernel_rfl
theorem vS{ops:Array Oper}{rest:List Oper}{o:Oper}{a:Act}{w:World}{Q:Exit->Act->World->Prop}(hgd:o.guard=none)(x y:Operand)(ho:o.op= .store 275 x y)
 (b:Nat) (x0 x1 x2 x3 x4 x5 x6 x7 y0 y1 y2 y3 y4 y5 y6 y7:Int) (hx:a.eval x= .pointer (some ⟨b,0,none⟩)) (hy:a.eval y= .agg #[.int .u64 x0, .int .u64 x1, .int .u64 x2, .int .u64 x3, .int .u64 x4, .int .u64 x5, .int .u64 x6, .int .u64 x7]) (hr:jV w b y0 y1 y2 y3 y4 y5 y6 y7)
 (h:wpList Tryz.prog ops Q rest (a.put o.dst undef) (w.setRow b #[.int .u64 x0, .int .u64 x1, .int .u64 x2, .int .u64 x3, .int .u64 x4, .int .u64 x5, .int .u64 x6, .int .u64 x7])):wpList Tryz.prog ops Q (o::rest) a w:=
 wpList_store_row hgd _ x y ho b _ hx hy _ _ hr Vf rfl (by kernel_rfl) h
theorem Qy(s:Bool)(x0 x1 x2 x3 x4 x5 x6 x7:Int)(w:World):(Instr.field 277 (.agg #[.bool s, .int .u64 x0, .int .u64 x1, .int .u64 x2, .int .u64 x3, .int .u64 x4, .int .u64 x5, .int .u64 x6, .int .u64 x7]) 1).run Tryz.prog w= .ok (.agg #[.int .u64 x0, .int .u64 x1, .int .u64 x2, .int .u64 x3, .int .u64 x4, .int .u64 x5, .int .u64 x6, .int .u64 x7]) w:=by kernel_rfl
end Lg
attribute [local go_sem] Lg.Qy
theorem join_one(N:Int)(w:World):
 Calls Tryz.prog 181 #[(.agg #[.bool false, .int .u64 (wd 0 N), .int .u64 (wd 1 N), .int .u64 (wd 2 N), .int .u64 (wd 3 N), .int .u64 (wd 4 N), .int .u64 (wd 5 N), .int .u64 (wd 6 N), .int .u64 (wd 7 N)]), .agg #[.bool false, .int .u64 1, .int .u64 0, .int .u64 0, .int .u64 0, .int .u64 0, .int .u64 0, .int .u64 0, .int .u64 0]] w fun e w'=>e= .returned (.agg #[.bool false, .int .u64 (wd 0 (N+1)), .int .u64 (wd 1 (N+1)), .int .u64 (wd 2 (N+1)), .int .u64 (wd 3 (N+1)), .int .u64 (wd 4 (N+1)), .int .u64 (wd 5 (N+1)), .int .u64 (wd 6 (N+1)), .int .u64 (wd 7 (N+1))])/\Below w.heap.size w w':=by
 have h:=Gq false N 1 w;rw [show wd 0 1=1 by decide,show wd 1 1=0 by decide,show wd 2 1=0 by decide,show wd 3 1=0 by decide,show wd 4 1=0 by decide,show wd 5 1=0 by decide,show wd 6 1=0 by decide,show wd 7 1=0 by decide] at h;exact h
theorem Xi(A F:Int)(v:Nat)(w:World)(hv:v<=31)(hF:(2:Int)^v=F):
 Calls Tryz.prog 263 #[.agg #[.int .u64 (wd 0 A), .int .u64 (wd 1 A), .int .u64 (wd 2 A), .int .u64 (wd 3 A), .int .u64 (wd 4 A), .int .u64 (wd 5 A), .int .u64 (wd 6 A), .int .u64 (wd 7 A)], .int .i64 (v:Int)] w fun e w'=>e= .returned (.int .u64 (wd 0 A/F%2))/\Below w.heap.size w w':=by
 have hq:(v:Int)/32=0:=om1;have hr:(v:Int)%32=(v:Int):=om1;have v0:(0:Int)<=(v:Int):=om1;have v1:(v:Int)<=31:=om1;have hF0:0<F:=by rw [← hF];exact Int.pow_pos om1
 have w0:=iJ 0 A;have p0:0<=wd 0 A/F:=Int.ediv_nonneg w0.1 om1;have p1:wd 0 A/F<=4294967295:=Int.le_trans (Int.ediv_le_self F w0.1) w0.2;go_enter Tryz.func263,Tryz.ntmps263
 go_wp2;go_ret;exact⟨rfl,af (Below.refl _ _) _⟩
theorem lbit_1(A F:Int)(v:Nat)(w:World)(hv:v<=31)(hF:(2:Int)^v=F):
 Calls Tryz.prog 263 #[.agg #[.int .u64 (wd 0 A), .int .u64 (wd 1 A), .int .u64 (wd 2 A), .int .u64 (wd 3 A), .int .u64 (wd 4 A), .int .u64 (wd 5 A), .int .u64 (wd 6 A), .int .u64 (wd 7 A)], .int .i64 (32+(v:Int))] w fun e w'=>e= .returned (.int .u64 (wd 1 A/F%2))/\Below w.heap.size w w':=by
 have hq:(32+(v:Int))/32=1:=om1;have hr:(32+(v:Int))%32=(v:Int):=om1;have v0:(0:Int)<=(v:Int):=om1;have v1:(v:Int)<=31:=om1;have hF0:0<F:=by rw [← hF];exact Int.pow_pos om1
 have w0:=iJ 1 A;have p0:0<=wd 1 A/F:=Int.ediv_nonneg w0.1 om1;have p1:wd 1 A/F<=4294967295:=Int.le_trans (Int.ediv_le_self F w0.1) w0.2;go_enter Tryz.func263,Tryz.ntmps263
 go_wp2;go_ret;exact⟨rfl,af (Below.refl _ _) _⟩
theorem Qz{p:Prop}(h:p:=by
 have hw01:=Hid.mk'' (xI (Q:=(N+1)) (by have:=hN1;unfold In8 at this;omega) hlt);have b0:=iJ 0 ((N+1));have b1:0<=wd 1 ((N+1))/\wd 1 ((N+1))<=1073741823:=sS (by have:=hN1;unfold In8 at this;omega) hlt;cases s
 ·go_wp2;go_ret2;exact⟨mg false HZ.out hlt hw01.out,ae hbel hb9⟩
 ·go_wp2;go_ret2
  exact⟨mg true HZ.out hlt (congrArg (fun z:Int=> -z) hw01.out),ae hbel hb9⟩):p:=h
theorem Xj{p:Prop}(h:p:=by
 go_wp2;refine wp_loop_rounds 1 ?_;rw [rounds_succ];go_wp2;go_quiet (fail)
 go_wp2_with fail
 refine(join_one N _).mono ?_;rintro e w4 ⟨rfl,hb4⟩;have hQN2:=(hQN.drewN nq).keep hb4;have hA92:=(hA9.drewN nq).keep hb4;have hbel2:=ae (below_drewN hbel nq) hb4;clear hQN hA9 hbel q0 q1 q2 q3 q4 q5 q6 q7 sA a0 a1 a2 a3 a4 a5 a6 a7;have hQN:=hQN2;have hA9:=hA92;have hbel:=hbel2;clear hQN2 hA92 hbel2;have q0:=hQN.cell (k:=0) om1;have q1:=hQN.cell (k:=1) om1;have q2:=hQN.cell (k:=2) om1;have q3:=hQN.cell (k:=3) om1;have q4:=hQN.cell (k:=4) om1;have q5:=hQN.cell (k:=5) om1;have q6:=hQN.cell (k:=6) om1;have q7:=hQN.cell (k:=7) om1;have sA:=hA9.cs;have a0:_=some (Value.int .u64 (wd 0 A)):=hA9.c0;have a1:_=some (Value.int .u64 (wd 1 A)):=hA9.c1;have a2:_=some (Value.int .u64 (wd 2 A)):=hA9.c2;have a3:_=some (Value.int .u64 (wd 3 A)):=hA9.c3;have a4:_=some (Value.int .u64 (wd 4 A)):=hA9.c4;have a5:_=some (Value.int .u64 (wd 5 A)):=hA9.c5;have a6:_=some (Value.int .u64 (wd 6 A)):=hA9.c6;have a7:_=some (Value.int .u64 (wd 7 A)):=hA9.c7;have r8:jV w4 (w.heap.size+1) (wd 0 N) (wd 1 N) (wd 2 N) (wd 3 N) (wd 4 N) (wd 5 N) (wd 6 N) (wd 7 N):=hQN;have r8':uz (w4.setRow (w.heap.size+1) #[.int .u64 (wd 0 (N+1)), .int .u64 (wd 1 (N+1)), .int .u64 (wd 2 (N+1)), .int .u64 (wd 3 (N+1)), .int .u64 (wd 4 (N+1)), .int .u64 (wd 5 (N+1)), .int .u64 (wd 6 (N+1)), .int .u64 (wd 7 (N+1))]) (w.heap.size+1) (fun j=>wd j (N+1)):=r8.row _ _ _ _ _ _ _ _;have hA9':o9 (w4.setRow (w.heap.size+1) #[.int .u64 (wd 0 (N+1)), .int .u64 (wd 1 (N+1)), .int .u64 (wd 2 (N+1)), .int .u64 (wd 3 (N+1)), .int .u64 (wd 4 (N+1)), .int .u64 (wd 5 (N+1)), .int .u64 (wd 6 (N+1)), .int .u64 (wd 7 (N+1))]) w.heap.size s (fun j=>wd j A):=fE.aY hA9 om1 _;have hbel':Below w.heap.size w (w4.setRow (w.heap.size+1) #[.int .u64 (wd 0 (N+1)), .int .u64 (wd 1 (N+1)), .int .u64 (wd 2 (N+1)), .int .u64 (wd 3 (N+1)), .int .u64 (wd 4 (N+1)), .int .u64 (wd 5 (N+1)), .int .u64 (wd 6 (N+1)), .int .u64 (wd 7 (N+1))]):=below_setRow hbel om1 _;clear hQN hA9 hbel q0 q1 q2 q3 q4 q5 q6 q7 sA a0 a1 a2 a3 a4 a5 a6 a7;have hQN:=r8';have hA9:=hA9';have hbel:=hbel';clear r8' hA9' hbel';have q0:=hQN.cell (k:=0) om1;have q1:=hQN.cell (k:=1) om1;have q2:=hQN.cell (k:=2) om1;have q3:=hQN.cell (k:=3) om1;have q4:=hQN.cell (k:=4) om1;have q5:=hQN.cell (k:=5) om1;have q6:=hQN.cell (k:=6) om1;have q7:=hQN.cell (k:=7) om1;have sA:=hA9.cs;go_upto_region 18 with(refine vS rfl (.tmp 6) (.tmp 108) rfl _ _ _ _ _ _ _ _ _ _ _ _ _ _ _ _ _ rfl rfl r8 ?_)
 generalize w4.setRow (w.heap.size+1) #[.int .u64 (wd 0 (N+1)), .int .u64 (wd 1 (N+1)), .int .u64 (wd 2 (N+1)), .int .u64 (wd 3 (N+1)), .int .u64 (wd 4 (N+1)), .int .u64 (wd 5 (N+1)), .int .u64 (wd 6 (N+1)), .int .u64 (wd 7 (N+1))]=wq at*;go_wp2_with fail
 refine(uJ (N+1) _ hN1).mono ?_;rintro e w9 ⟨rfl,hb9⟩;have t0:=ah hb9 q0;have t1:=ah hb9 q1;have tA:=ah hb9 sA;by_cases hlt:(N+1)<4611686018427387904
 ·rw [decide_eq_true hlt];exact Qz
 ·rw [decide_eq_false hlt];cases s
  ·go_wp2;go_ret2;exact⟨iZ false HZ.out om1,ae hbel hb9⟩
  ·go_wp2;go_ret2
   exact⟨iZ true HZ.out om1,ae hbel hb9⟩):p:=h
theorem by_low(s:Bool)(A D E N:Int)(sh u:Nat)(w:World)(hA:In8 A)(hN:In8 N)(hsh:sh<=31)(hu:sh+u=32)(hD:(2:Int)^sh=D)(hE:(2:Int)^u=E)(HN:Hid (N=A/(4294967296^0*D)))(F:Int)(v:Nat)(hv31:v<=31)(hF:(2:Int)^v=F)(hN1:In8 (N+1))(Z:Int)(HRES:Hid (Z=if wd 0 A/F%2=1/\((False\/0<wd 0 A%F)\/wd 0 N%2=1) then N+1 else N))(Hv:Hid (sh=v+1)):
 Calls Tryz.prog 183 #[(.agg #[.bool s, .int .u64 (wd 0 A), .int .u64 (wd 1 A), .int .u64 (wd 2 A), .int .u64 (wd 3 A), .int .u64 (wd 4 A), .int .u64 (wd 5 A), .int .u64 (wd 6 A), .int .u64 (wd 7 A)]), .int .i64 (sh:Int)] w fun e w'=>e= .returned (res s Z)/\Below w.heap.size w w':=by
 have hD0:0<D:=by rw [← hD];exact Int.pow_pos om1
 have hE0:0<E:=by rw [← hE];exact Int.pow_pos om1
 have HDE:Hid (D*E=4294967296):=Hid.mk'' (by rw [← hD,← hE,← Int.pow_add,hu];rfl)
 have hDW:D<=4294967296:=by
  have:D*1<=D*E:=Int.mul_le_mul_of_nonneg_left om1 om1;rw [HDE.out] at this;omega
 have hEW:E<=4294967296:=by
  have:1*E<=D*E:=Int.mul_le_mul_of_nonneg_right om1 om1;rw [HDE.out] at this;omega
 have hq:(sh:Int)/32=0:=om1;have hr:(sh:Int)%32=(sh:Int):=om1;have hk:32- (sh:Int)=(u:Int):=om1;have s0:(0:Int)<=(sh:Int):=om1;have s1:(sh:Int)<=31:=om1;have u0:(0:Int)<=(u:Int):=om1;have u1:(u:Int)<=32:=om1;clear hu;go_enter Tryz.func183,Tryz.ntmps183
 go_wp2;go_loopw [9] (fun i wr=> ∃ k:Nat,k<=8- 0/\i= .int .i64 (k:Int)/\uz wr (w.heap.size+1) (Aw k (fun j=>wd j N) (fun _=>0))/\o9 wr w.heap.size s (fun j=>wd j A)/\Below w.heap.size w wr) (fun i _=>8- (intOf i).toNat)
 case atStart=>exact⟨0,om1,rfl,EE (w.alloc _) (by simp) _ _ _ _ _ _ _ _,(jG w _ _ _ _ _ _ _ _ _).alloc _,af (af (Below.refl _ _) _) _⟩
 case round=>
  obtain⟨k,hk8,rfl,hQ,hA9,hbel⟩:=hrel;by_cases h8:k<8- 0
  ·have cA:wr.cell? ⟨w.heap.size,1+k,none⟩=some (.int .u64 (wd (k) A)):=hA9.cell (k:=k) om1;exact Xh
  ·have hQN:uz wr (w.heap.size+1) (fun j=>wd j N):=by
    refine hQ.congr ?_;intro j hj;unfold Aw;by_cases e:j<k
    ·rw [if_pos e]
    ·rw [if_neg e];omega
   have hk9:8<=k+0:=om1;clear hQ h8 HDE;have q0:=hQN.cell (k:=0) om1;have q1:=hQN.cell (k:=1) om1;have q2:=hQN.cell (k:=2) om1;have q3:=hQN.cell (k:=3) om1;have q4:=hQN.cell (k:=4) om1;have q5:=hQN.cell (k:=5) om1;have q6:=hQN.cell (k:=6) om1;have q7:=hQN.cell (k:=7) om1;have sA:=hA9.cs;have a0:_=some (Value.int .u64 (wd 0 A)):=hA9.c0;have a1:_=some (Value.int .u64 (wd 1 A)):=hA9.c1;have a2:_=some (Value.int .u64 (wd 2 A)):=hA9.c2;have a3:_=some (Value.int .u64 (wd 3 A)):=hA9.c3;have a4:_=some (Value.int .u64 (wd 4 A)):=hA9.c4;have a5:_=some (Value.int .u64 (wd 5 A)):=hA9.c5;have a6:_=some (Value.int .u64 (wd 6 A)):=hA9.c6;have a7:_=some (Value.int .u64 (wd 7 A)):=hA9.c7;have hv1:(sh:Int)- 1=(v:Int):=by have:=Hv.out;omega
   have hpos:(0:Int)<(sh:Int):=by have:=Hv.out;omega
   have hv2:(v:Int)/32=0:=om1;have hv4:((sh:Int)- 1)/32=0:=om1;have hv5:((sh:Int)- 1)%32=(v:Int):=om1;have hv3:(v:Int)%32=(v:Int):=om1;have v0:(0:Int)<=(v:Int):=om1;have v1:(v:Int)<=31:=om1;have hv6:((sh:Int)- 1).tdiv 32=0:=by rw [Int.tdiv_eq_ediv_of_nonneg om1];omega
   have hv7:((sh:Int)- 1).tmod 32=(v:Int):=by rw [Int.tmod_eq_emod_of_nonneg om1];omega
   have hv8:(v:Int).tdiv 32=0:=by rw [Int.tdiv_eq_ediv_of_nonneg om1];omega
   have hv9:(v:Int).tmod 32=(v:Int):=by rw [Int.tmod_eq_emod_of_nonneg om1];omega
   have hva:IntKind.i64.wrap ((sh:Int)- 1)=(v:Int):=by rw [IntKind.wrap_i64];omega
   have hvw:IntKind.i64.wrap (v:Int)=(v:Int):=by rw [IntKind.wrap_i64];omega
   obtain⟨hF1,hF2,hfw⟩:=EI hv31 hF;have hF0:0<F:=by rw [← hF];exact Int.pow_pos om1
   have wM:=iJ 0 A;have wN:=iJ 0 N;have rm0:0<=wd 0 A%F:=Int.emod_nonneg _ om1;have rm1:wd 0 A%F<F:=Int.emod_lt_of_pos _ hF0;go_wp2_with fail
   refine(Xi A F v _ hv31 hF).mono ?_;rintro e w2 ⟨rfl,hb2⟩;have hQN2:=hQN.keep hb2;have hA92:=hA9.keep hb2;have hbel2:=ae hbel hb2;clear hQN hA9 hbel q0 q1 q2 q3 q4 q5 q6 q7 sA a0 a1 a2 a3 a4 a5 a6 a7;have hQN:=hQN2;have hA9:=hA92;have hbel:=hbel2;clear hQN2 hA92 hbel2;have q0:=hQN.cell (k:=0) om1;have q1:=hQN.cell (k:=1) om1;have q2:=hQN.cell (k:=2) om1;have q3:=hQN.cell (k:=3) om1;have q4:=hQN.cell (k:=4) om1;have q5:=hQN.cell (k:=5) om1;have q6:=hQN.cell (k:=6) om1;have q7:=hQN.cell (k:=7) om1;have sA:=hA9.cs;have a0:_=some (Value.int .u64 (wd 0 A)):=hA9.c0;have a1:_=some (Value.int .u64 (wd 1 A)):=hA9.c1;have a2:_=some (Value.int .u64 (wd 2 A)):=hA9.c2;have a3:_=some (Value.int .u64 (wd 3 A)):=hA9.c3;have a4:_=some (Value.int .u64 (wd 4 A)):=hA9.c4;have a5:_=some (Value.int .u64 (wd 5 A)):=hA9.c5;have a6:_=some (Value.int .u64 (wd 6 A)):=hA9.c6;have a7:_=some (Value.int .u64 (wd 7 A)):=hA9.c7;rcases Int.emod_two_eq (wd 0 A/F) with hB|hB
   ·rw [hB];have HZ:Hid (Z=N):=Hid.mk'' (by rw [HRES.out,if_neg (by intro h;have:=h.1;omega)]);go_wp2_with fail
    refine(uJ N _ hN).mono ?_;rintro e w9 ⟨rfl,hb9⟩;have t0:=ah hb9 q0;have t1:=ah hb9 q1;have tA:=ah hb9 sA;by_cases hlt:N<4611686018427387904
    ·rw [decide_eq_true hlt];have hw01:=Hid.mk'' (xI (Q:=N) (by have:=hN;unfold In8 at this;omega) hlt);have b0:=iJ 0 (N);have b1:0<=wd 1 (N)/\wd 1 (N)<=1073741823:=sS (by have:=hN;unfold In8 at this;omega) hlt;cases s
     ·go_wp2;go_ret2;exact⟨mg false HZ.out hlt hw01.out,ae hbel hb9⟩
     ·go_wp2;go_ret2;exact⟨mg true HZ.out hlt (congrArg (fun z:Int=> -z) hw01.out),ae hbel hb9⟩
    ·rw [decide_eq_false hlt];cases s
     ·go_wp2;go_ret2;exact⟨iZ false HZ.out om1,ae hbel hb9⟩
     ·go_wp2;go_ret2;exact⟨iZ true HZ.out om1,ae hbel hb9⟩
   ·rw [hB];by_cases hR1:0<wd 0 A%F
    ·have HZ:Hid (Z=N+1):=Hid.mk'' (by rw [HRES.out,if_pos ⟨hB,Or.inl (Or.inr hR1)⟩]);exact Xj
    ·by_cases hod:wd 0 N%2=1
     ·have HZ:Hid (Z=N+1):=Hid.mk'' (by rw [HRES.out,if_pos ⟨hB,Or.inr hod⟩]);have hodb:(wd 0 N%2==1)=true:=by simpa using hod
      exact Xj
     ·have HZ:Hid (Z=N):=Hid.mk'' (by rw [HRES.out,if_neg (by intro h;rcases h.2 with(h2|h2)|h2<;>omega)])
      have hodb:(wd 0 N%2==1)=false:=by simpa using hod
      go_wp2;refine wp_loop_rounds 1 ?_;rw [rounds_succ];go_wp2;go_quiet (fail)
      go_wp2_with fail
      refine(uJ N _ hN).mono ?_;rintro e w9 ⟨rfl,hb9⟩;have t0:=ah hb9 q0;have t1:=ah hb9 q1;have tA:=ah hb9 sA;by_cases hlt:N<4611686018427387904
      ·rw [decide_eq_true hlt];have hw01:=Hid.mk'' (xI (Q:=N) (by have:=hN;unfold In8 at this;omega) hlt);have b0:=iJ 0 (N);have b1:0<=wd 1 (N)/\wd 1 (N)<=1073741823:=sS (by have:=hN;unfold In8 at this;omega) hlt;cases s
       ·go_wp2;go_ret2;exact⟨mg false HZ.out hlt hw01.out,ae (below_drewN hbel _) hb9⟩
       ·go_wp2;go_ret2;exact⟨mg true HZ.out hlt (congrArg (fun z:Int=> -z) hw01.out),ae (below_drewN hbel _) hb9⟩
      ·rw [decide_eq_false hlt];cases s
       ·go_wp2;go_ret2;exact⟨iZ false HZ.out om1,ae (below_drewN hbel _) hb9⟩
       ·go_wp2;go_ret2;exact⟨iZ true HZ.out om1,ae (below_drewN hbel _) hb9⟩
end
section
open Go.RowKit Lg
attribute [local go_sem ↓] Go.wp_at_zero Go.wp_at_succ
attribute [local go_sem] Lg.Qy
theorem Gv{p:Prop}(h:p:=by
 rw [rounds_succ];go_wp2;go_quiet (fail)
 go_wp2_with fail
 refine(join_one N _).mono ?_;rintro e w4 ⟨rfl,hb4⟩;have hQN2:=(hQN.drewN nq).keep hb4;have hA92:=(hA9.drewN nq).keep hb4;have hbel2:=ae (below_drewN hbel nq) hb4;clear hQN hA9 hbel q0 q1 q2 q3 q4 q5 q6 q7 sA a0 a1 a2 a3 a4 a5 a6 a7;have hQN:=hQN2;have hA9:=hA92;have hbel:=hbel2;clear hQN2 hA92 hbel2;have q0:=hQN.cell (k:=0) om1;have q1:=hQN.cell (k:=1) om1;have q2:=hQN.cell (k:=2) om1;have q3:=hQN.cell (k:=3) om1;have q4:=hQN.cell (k:=4) om1;have q5:=hQN.cell (k:=5) om1;have q6:=hQN.cell (k:=6) om1;have q7:=hQN.cell (k:=7) om1;have sA:=hA9.cs;have a0:_=some (Value.int .u64 (wd 0 A)):=hA9.c0;have a1:_=some (Value.int .u64 (wd 1 A)):=hA9.c1;have a2:_=some (Value.int .u64 (wd 2 A)):=hA9.c2;have a3:_=some (Value.int .u64 (wd 3 A)):=hA9.c3;have a4:_=some (Value.int .u64 (wd 4 A)):=hA9.c4;have a5:_=some (Value.int .u64 (wd 5 A)):=hA9.c5;have a6:_=some (Value.int .u64 (wd 6 A)):=hA9.c6;have a7:_=some (Value.int .u64 (wd 7 A)):=hA9.c7;have r8:jV w4 (w.heap.size+1) (wd 0 N) (wd 1 N) (wd 2 N) (wd 3 N) (wd 4 N) (wd 5 N) (wd 6 N) (wd 7 N):=hQN;have r8':uz (w4.setRow (w.heap.size+1) #[.int .u64 (wd 0 (N+1)), .int .u64 (wd 1 (N+1)), .int .u64 (wd 2 (N+1)), .int .u64 (wd 3 (N+1)), .int .u64 (wd 4 (N+1)), .int .u64 (wd 5 (N+1)), .int .u64 (wd 6 (N+1)), .int .u64 (wd 7 (N+1))]) (w.heap.size+1) (fun j=>wd j (N+1)):=r8.row _ _ _ _ _ _ _ _;have hA9':o9 (w4.setRow (w.heap.size+1) #[.int .u64 (wd 0 (N+1)), .int .u64 (wd 1 (N+1)), .int .u64 (wd 2 (N+1)), .int .u64 (wd 3 (N+1)), .int .u64 (wd 4 (N+1)), .int .u64 (wd 5 (N+1)), .int .u64 (wd 6 (N+1)), .int .u64 (wd 7 (N+1))]) w.heap.size s (fun j=>wd j A):=fE.aY hA9 om1 _;have hbel':Below w.heap.size w (w4.setRow (w.heap.size+1) #[.int .u64 (wd 0 (N+1)), .int .u64 (wd 1 (N+1)), .int .u64 (wd 2 (N+1)), .int .u64 (wd 3 (N+1)), .int .u64 (wd 4 (N+1)), .int .u64 (wd 5 (N+1)), .int .u64 (wd 6 (N+1)), .int .u64 (wd 7 (N+1))]):=below_setRow hbel om1 _;clear hQN hA9 hbel q0 q1 q2 q3 q4 q5 q6 q7 sA a0 a1 a2 a3 a4 a5 a6 a7;have hQN:=r8';have hA9:=hA9';have hbel:=hbel';clear r8' hA9' hbel';have q0:=hQN.cell (k:=0) om1;have q1:=hQN.cell (k:=1) om1;have q2:=hQN.cell (k:=2) om1;have q3:=hQN.cell (k:=3) om1;have q4:=hQN.cell (k:=4) om1;have q5:=hQN.cell (k:=5) om1;have q6:=hQN.cell (k:=6) om1;have q7:=hQN.cell (k:=7) om1;have sA:=hA9.cs;go_upto_region 18 with(refine vS rfl (.tmp 6) (.tmp 108) rfl _ _ _ _ _ _ _ _ _ _ _ _ _ _ _ _ _ rfl rfl r8 ?_)
 generalize w4.setRow (w.heap.size+1) #[.int .u64 (wd 0 (N+1)), .int .u64 (wd 1 (N+1)), .int .u64 (wd 2 (N+1)), .int .u64 (wd 3 (N+1)), .int .u64 (wd 4 (N+1)), .int .u64 (wd 5 (N+1)), .int .u64 (wd 6 (N+1)), .int .u64 (wd 7 (N+1))]=wq at*;go_wp2_with fail
 refine(uJ (N+1) _ hN1).mono ?_;rintro e w9 ⟨rfl,hb9⟩;have t0:=ah hb9 q0;have t1:=ah hb9 q1;have tA:=ah hb9 sA;by_cases hlt:(N+1)<4611686018427387904
 ·rw [decide_eq_true hlt];exact Qz
 ·rw [decide_eq_false hlt];cases s
  ·go_wp2;go_ret2;exact⟨iZ false HZ.out om1,ae hbel hb9⟩
  ·go_wp2;go_ret2
   exact⟨iZ true HZ.out om1,ae hbel hb9⟩):p:=h
theorem Xl{p:Prop}(h:p:=by
 have w0:=iJ (k+1) A;have w1:=iJ (k+1+1) A;have cQ:=hQ.cell (k:=k) om1;have fQ:=hQ.free k;have SW:=Hid.mk'' (uH A D E 1 k hD0 hE0 HDE.out);rw [← HN.out] at SW;have HS:=Hid.mk'' (fun(w':World) (d:Nat->Int) (h:uz w' (w.heap.size+1) d) (v:Int)=>h.set v (k:=k) om1);have TOP:=Hid.mk'' (Lh hA);have cA2:k+1+1<8->wr.cell? ⟨w.heap.size,1+(k+1+1),none⟩=some (.int .u64 (wd (k+1+1) A)):=fun h=>hA9.cell (k:=k+1+1) h;obtain⟨P,hP⟩: ∃ P,P=wd (k+1) A:=⟨_,rfl⟩;obtain⟨R,hR⟩: ∃ R,R=wd (k+1+1) A:=⟨_,rfl⟩;have HR:=Hid.mk'' hR;rw [← hP] at cA w0;rw [← hR] at cA2 w1;have HP:=Hid.mk'' hP;clear hP hR;have p0:0<=P/D:=Int.ediv_nonneg w0.1 om1;have p1:P/D<=4294967295:=Int.le_trans (Int.ediv_le_self D w0.1) w0.2;have r0:0<=R*E:=Int.mul_nonneg w1.1 om1;have r1:R*E<=4294967295*4294967296:=Int.mul_le_mul w1.2 hEW om1 om1;by_cases h2:k+1+1<8
 · have cA3:=cA2 h2;clear cA2;go_wp2;go_region
   all_goals go_wp2
   all_goals go_roundw
   case rel=>
    exact Qx
   case measure=>simp [intOf];omega
 · clear cA2;go_wp2;go_roundw
   case rel=>
    refine⟨k+1,om1,by go_num,(HS.out _ _ hQ _).congr ?_,hA9.other _ (show w.heap.size≠w.heap.size+1 by omega),hbel.setCell (p:=⟨w.heap.size+1,k,none⟩) (show w.heap.size<=w.heap.size+1 by omega) _⟩;intro j _;unfold Aw;by_cases e:j=k
    · subst e;have z:=TOP.out (j+1+1) om1;have sw:=SW.out;rw [z,Int.zero_mul] at sw;rw [if_pos rfl,if_pos om1,HP.out];show _=wd j N;rw [sw];simp
    · rw [if_neg e];by_cases e2:j<k
      · rw [if_pos e2,if_pos om1]
      · rw [if_neg e2,if_neg om1]
   case measure=>simp [intOf];omega):p:=h
theorem Xm{p:Prop}(h:p:=by
 rw [rounds_succ];go_wp2;go_quiet (fail)
 go_wp2_with fail
 refine(uJ N _ hN).mono ?_;rintro e w9 ⟨rfl,hb9⟩;have t0:=ah hb9 q0;have t1:=ah hb9 q1;have tA:=ah hb9 sA;by_cases hlt:N<4611686018427387904
 · rw [decide_eq_true hlt];have hw01:=Hid.mk'' (xI (Q:=N) (by have:=hN;unfold In8 at this;omega) hlt);have b0:=iJ 0 (N);have b1:0<=wd 1 (N)/\wd 1 (N)<=1073741823:=sS (by have:=hN;unfold In8 at this;omega) hlt;cases s
   · go_wp2;go_ret2;exact⟨mg false HZ.out hlt hw01.out,ae (below_drewN hbel _) hb9⟩
   · go_wp2;go_ret2;exact⟨mg true HZ.out hlt (congrArg (fun z:Int=> -z) hw01.out),ae (below_drewN hbel _) hb9⟩
 · rw [decide_eq_false hlt];cases s
   · go_wp2;go_ret2;exact⟨iZ false HZ.out om1,ae (below_drewN hbel _) hb9⟩
   · go_wp2;go_ret2
     exact⟨iZ true HZ.out om1,ae (below_drewN hbel _) hb9⟩):p:=h
theorem Xn{p:Prop}(h:p:=by
 have HZ:Hid (Z=N):=Hid.mk'' (by rw [HRES.out,if_neg (by intro h;have:=h.1;omega)]);go_wp2_with fail
 refine(uJ N _ hN).mono ?_;rintro e w9 ⟨rfl,hb9⟩;have t0:=ah hb9 q0;have t1:=ah hb9 q1;have tA:=ah hb9 sA;by_cases hlt:N<4611686018427387904
 · rw [decide_eq_true hlt];have hw01:=Hid.mk'' (xI (Q:=N) (by have:=hN;unfold In8 at this;omega) hlt);have b0:=iJ 0 (N);have b1:0<=wd 1 (N)/\wd 1 (N)<=1073741823:=sS (by have:=hN;unfold In8 at this;omega) hlt;cases s
   · go_wp2;go_ret2;exact⟨mg false HZ.out hlt hw01.out,ae hbel hb9⟩
   · go_wp2;go_ret2;exact⟨mg true HZ.out hlt (congrArg (fun z:Int=> -z) hw01.out),ae hbel hb9⟩
 · rw [decide_eq_false hlt];cases s
   · go_wp2;go_ret2;exact⟨iZ false HZ.out om1,ae hbel hb9⟩
   · go_wp2;go_ret2
     exact⟨iZ true HZ.out om1,ae hbel hb9⟩):p:=h
theorem Xo{p:Prop}(h:p:=by
 refine hQ.congr ?_;intro j hj;unfold Aw;by_cases e:j<k
 · rw [if_pos e]
 · rw [if_neg e];have e7:j=7:=om1;have sw:=uH A D E 1 j hD0 hE0 (by rw [← hD,← hE,← Int.pow_add];exact(by have h:=hk;rw [show sh+u=32 by omega];rfl));rw [← HN.out,Lh hA (j+1) om1,Lh hA (j+1+1) om1] at sw;show 0=wd j N
   rw [sw];simp):p:=h
theorem by_mid(s:Bool)(A D E N:Int)(sh u:Nat)(w:World)(hA:In8 A)(hN:In8 N)(hsh:sh<=31)(hu:sh+u=32)(hD:(2:Int)^sh=D)(hE:(2:Int)^u=E)(HN:Hid (N=A/(4294967296^1*D)))(F:Int)(v:Nat)(hv31:v<=31)(hF:(2:Int)^v=F)(hN1:In8 (N+1))(Z:Int)(HRES:Hid (Z=if wd 0 A/F%2=1/\((False\/0<wd 0 A%F)\/wd 0 N%2=1) then N+1 else N))(Hv:Hid (sh=0/\v=31)):
 Calls Tryz.prog 183 #[(.agg #[.bool s, .int .u64 (wd 0 A), .int .u64 (wd 1 A), .int .u64 (wd 2 A), .int .u64 (wd 3 A), .int .u64 (wd 4 A), .int .u64 (wd 5 A), .int .u64 (wd 6 A), .int .u64 (wd 7 A)]), .int .i64 (32+(sh:Int))] w fun e w'=>e= .returned (res s Z)/\Below w.heap.size w w':=by
 have hD0:0<D:=by rw [← hD];exact Int.pow_pos om1
 have hE0:0<E:=by rw [← hE];exact Int.pow_pos om1
 have HDE:Hid (D*E=4294967296):=Hid.mk'' (by rw [← hD,← hE,← Int.pow_add,hu];rfl)
 have hDW:D<=4294967296:=by
  have:D*1<=D*E:=Int.mul_le_mul_of_nonneg_left om1 om1;rw [HDE.out] at this;omega
 have hEW:E<=4294967296:=by
  have:1*E<=D*E:=Int.mul_le_mul_of_nonneg_right om1 om1;rw [HDE.out] at this;omega
 have hq:(32+(sh:Int))/32=1:=om1;have hr:(32+(sh:Int))%32=(sh:Int):=om1;have hk:32- (sh:Int)=(u:Int):=om1;have s0:(0:Int)<=(sh:Int):=om1;have s1:(sh:Int)<=31:=om1;have u0:(0:Int)<=(u:Int):=om1;have u1:(u:Int)<=32:=om1;clear hu;go_enter Tryz.func183,Tryz.ntmps183
 go_wp2;go_loopw [9] (fun i wr=> ∃ k:Nat,k<=8- 1/\i= .int .i64 (k:Int)/\uz wr (w.heap.size+1) (Aw k (fun j=>wd j N) (fun _=>0))/\o9 wr w.heap.size s (fun j=>wd j A)/\Below w.heap.size w wr) (fun i _=>8- (intOf i).toNat)
 case atStart=>exact⟨0,om1,rfl,EE (w.alloc _) (by simp) _ _ _ _ _ _ _ _,(jG w _ _ _ _ _ _ _ _ _).alloc _,af (af (Below.refl _ _) _) _⟩
 case round=>
  obtain⟨k,hk8,rfl,hQ,hA9,hbel⟩:=hrel;by_cases h8:k<8- 1
  ·have cA:wr.cell? ⟨w.heap.size,1+(k+1),none⟩=some (.int .u64 (wd (k+1) A)):=hA9.cell (k:=k+1) om1;exact Xl
  ·have hQN:uz wr (w.heap.size+1) (fun j=>wd j N):=by
    exact Xo
   have hk9:8<=k+1:=om1;clear hQ h8 HDE;have q0:=hQN.cell (k:=0) om1;have q1:=hQN.cell (k:=1) om1;have q2:=hQN.cell (k:=2) om1;have q3:=hQN.cell (k:=3) om1;have q4:=hQN.cell (k:=4) om1;have q5:=hQN.cell (k:=5) om1;have q6:=hQN.cell (k:=6) om1;have q7:=hQN.cell (k:=7) om1;have sA:=hA9.cs;have a0:_=some (Value.int .u64 (wd 0 A)):=hA9.c0;have a1:_=some (Value.int .u64 (wd 1 A)):=hA9.c1;have a2:_=some (Value.int .u64 (wd 2 A)):=hA9.c2;have a3:_=some (Value.int .u64 (wd 3 A)):=hA9.c3;have a4:_=some (Value.int .u64 (wd 4 A)):=hA9.c4;have a5:_=some (Value.int .u64 (wd 5 A)):=hA9.c5;have a6:_=some (Value.int .u64 (wd 6 A)):=hA9.c6;have a7:_=some (Value.int .u64 (wd 7 A)):=hA9.c7;have e0:(sh:Int)=0:=by have:=Hv.out.1;omega
   have e31:(v:Int)=31:=by have:=Hv.out.2;omega
   have hv1:32+(sh:Int)- 1=(v:Int):=om1;have hv2:(v:Int)/32=0:=om1;have hv3:(v:Int)%32=(v:Int):=om1;have hv8:(v:Int).tdiv 32=0:=by rw [Int.tdiv_eq_ediv_of_nonneg om1];omega
   have hv9:(v:Int).tmod 32=(v:Int):=by rw [Int.tmod_eq_emod_of_nonneg om1];omega
   clear e0 e31;have v0:(0:Int)<=(v:Int):=om1;have v1:(v:Int)<=31:=om1;have hvw:IntKind.i64.wrap (v:Int)=(v:Int):=by rw [IntKind.wrap_i64];omega
   obtain⟨hF1,hF2,hfw⟩:=EI hv31 hF;have hF0:0<F:=by rw [← hF];exact Int.pow_pos om1
   have wM:=iJ 0 A;have wN:=iJ 0 N;have rm0:0<=wd 0 A%F:=Int.emod_nonneg _ om1;have rm1:wd 0 A%F<F:=Int.emod_lt_of_pos _ hF0;go_wp2_with fail
   refine(Xi A F v _ hv31 hF).mono ?_;rintro e w2 ⟨rfl,hb2⟩;have hQN2:=hQN.keep hb2;have hA92:=hA9.keep hb2;have hbel2:=ae hbel hb2;clear hQN hA9 hbel q0 q1 q2 q3 q4 q5 q6 q7 sA a0 a1 a2 a3 a4 a5 a6 a7;have hQN:=hQN2;have hA9:=hA92;have hbel:=hbel2;clear hQN2 hA92 hbel2;have q0:=hQN.cell (k:=0) om1;have q1:=hQN.cell (k:=1) om1;have q2:=hQN.cell (k:=2) om1;have q3:=hQN.cell (k:=3) om1;have q4:=hQN.cell (k:=4) om1;have q5:=hQN.cell (k:=5) om1;have q6:=hQN.cell (k:=6) om1;have q7:=hQN.cell (k:=7) om1;have sA:=hA9.cs;have a0:_=some (Value.int .u64 (wd 0 A)):=hA9.c0;have a1:_=some (Value.int .u64 (wd 1 A)):=hA9.c1;have a2:_=some (Value.int .u64 (wd 2 A)):=hA9.c2;have a3:_=some (Value.int .u64 (wd 3 A)):=hA9.c3;have a4:_=some (Value.int .u64 (wd 4 A)):=hA9.c4;have a5:_=some (Value.int .u64 (wd 5 A)):=hA9.c5;have a6:_=some (Value.int .u64 (wd 6 A)):=hA9.c6;have a7:_=some (Value.int .u64 (wd 7 A)):=hA9.c7;rcases Int.emod_two_eq (wd 0 A/F) with hB|hB
   ·rw [hB];exact Xn
   ·rw [hB];by_cases hR1:0<wd 0 A%F
    ·have HZ:Hid (Z=N+1):=Hid.mk'' (by rw [HRES.out,if_pos ⟨hB,Or.inl (Or.inr hR1)⟩]);go_wp2;refine wp_loop_rounds 1 ?_;exact Gv
    ·by_cases hod:wd 0 N%2=1
     ·have HZ:Hid (Z=N+1):=Hid.mk'' (by rw [HRES.out,if_pos ⟨hB,Or.inr hod⟩]);have hodb:(wd 0 N%2==1)=true:=by simpa using hod
      go_wp2;refine wp_loop_rounds 1 ?_;exact Gv
     ·have HZ:Hid (Z=N):=Hid.mk'' (by rw [HRES.out,if_neg (by intro h;rcases h.2 with(h2|h2)|h2<;>omega)])
      have hodb:(wd 0 N%2==1)=false:=by simpa using hod
      go_wp2;refine wp_loop_rounds 1 ?_;exact Xm
theorem YW(s:Bool)(A D E N:Int)(sh u:Nat)(w:World)(hA:In8 A)(hN:In8 N)(hsh:sh<=31)(hu:sh+u=32)(hD:(2:Int)^sh=D)(hE:(2:Int)^u=E)(HN:Hid (N=A/(4294967296^1*D)))(F:Int)(v:Nat)(hv31:v<=31)(hF:(2:Int)^v=F)(hN1:In8 (N+1))(Z:Int)(HRES:Hid (Z=if wd 1 A/F%2=1/\((0<wd 0 A\/0<wd 1 A%F)\/wd 0 N%2=1) then N+1 else N))(Hv:Hid (sh=v+1)):
 Calls Tryz.prog 183 #[(.agg #[.bool s, .int .u64 (wd 0 A), .int .u64 (wd 1 A), .int .u64 (wd 2 A), .int .u64 (wd 3 A), .int .u64 (wd 4 A), .int .u64 (wd 5 A), .int .u64 (wd 6 A), .int .u64 (wd 7 A)]), .int .i64 (32+(sh:Int))] w fun e w'=>e= .returned (res s Z)/\Below w.heap.size w w':=by
 have hD0:0<D:=by rw [← hD];exact Int.pow_pos om1
 have hE0:0<E:=by rw [← hE];exact Int.pow_pos om1
 have HDE:Hid (D*E=4294967296):=Hid.mk'' (by rw [← hD,← hE,← Int.pow_add,hu];rfl)
 have hDW:D<=4294967296:=by
  have:D*1<=D*E:=Int.mul_le_mul_of_nonneg_left om1 om1;rw [HDE.out] at this;omega
 have hEW:E<=4294967296:=by
  have:1*E<=D*E:=Int.mul_le_mul_of_nonneg_right om1 om1;rw [HDE.out] at this;omega
 have hq:(32+(sh:Int))/32=1:=om1;have hr:(32+(sh:Int))%32=(sh:Int):=om1;have hk:32- (sh:Int)=(u:Int):=om1;have s0:(0:Int)<=(sh:Int):=om1;have s1:(sh:Int)<=31:=om1;have u0:(0:Int)<=(u:Int):=om1;have u1:(u:Int)<=32:=om1;clear hu;go_enter Tryz.func183,Tryz.ntmps183
 go_wp2;go_loopw [9] (fun i wr=> ∃ k:Nat,k<=8- 1/\i= .int .i64 (k:Int)/\uz wr (w.heap.size+1) (Aw k (fun j=>wd j N) (fun _=>0))/\o9 wr w.heap.size s (fun j=>wd j A)/\Below w.heap.size w wr) (fun i _=>8- (intOf i).toNat)
 case atStart=>exact⟨0,om1,rfl,EE (w.alloc _) (by simp) _ _ _ _ _ _ _ _,(jG w _ _ _ _ _ _ _ _ _).alloc _,af (af (Below.refl _ _) _) _⟩
 case round=>
  obtain⟨k,hk8,rfl,hQ,hA9,hbel⟩:=hrel;by_cases h8:k<8- 1
  ·have cA:wr.cell? ⟨w.heap.size,1+(k+1),none⟩=some (.int .u64 (wd (k+1) A)):=hA9.cell (k:=k+1) om1;exact Xl
  ·have hQN:uz wr (w.heap.size+1) (fun j=>wd j N):=by
    exact Xo
   have hk9:8<=k+1:=om1;clear hQ h8 HDE;have q0:=hQN.cell (k:=0) om1;have q1:=hQN.cell (k:=1) om1;have q2:=hQN.cell (k:=2) om1;have q3:=hQN.cell (k:=3) om1;have q4:=hQN.cell (k:=4) om1;have q5:=hQN.cell (k:=5) om1;have q6:=hQN.cell (k:=6) om1;have q7:=hQN.cell (k:=7) om1;have sA:=hA9.cs;have a0:_=some (Value.int .u64 (wd 0 A)):=hA9.c0;have a1:_=some (Value.int .u64 (wd 1 A)):=hA9.c1;have a2:_=some (Value.int .u64 (wd 2 A)):=hA9.c2;have a3:_=some (Value.int .u64 (wd 3 A)):=hA9.c3;have a4:_=some (Value.int .u64 (wd 4 A)):=hA9.c4;have a5:_=some (Value.int .u64 (wd 5 A)):=hA9.c5;have a6:_=some (Value.int .u64 (wd 6 A)):=hA9.c6;have a7:_=some (Value.int .u64 (wd 7 A)):=hA9.c7;have e0:(sh:Int)=(v:Int)+1:=by have:=Hv.out;omega
   have hv1:32+(sh:Int)- 1=32+(v:Int):=om1;have hv2:(32+(v:Int))/32=1:=om1;have hv3:(32+(v:Int))%32=(v:Int):=om1;have hv8:(32+(v:Int)).tdiv 32=1:=by rw [Int.tdiv_eq_ediv_of_nonneg om1];omega
   have hv9:(32+(v:Int)).tmod 32=(v:Int):=by rw [Int.tmod_eq_emod_of_nonneg om1];omega
   have hvx:IntKind.i64.wrap (32+(v:Int))=32+(v:Int):=by rw [IntKind.wrap_i64];omega
   clear e0;have v0:(0:Int)<=(v:Int):=om1;have v1:(v:Int)<=31:=om1;have hvw:IntKind.i64.wrap (v:Int)=(v:Int):=by rw [IntKind.wrap_i64];omega
   obtain⟨hF1,hF2,hfw⟩:=EI hv31 hF;have hF0:0<F:=by rw [← hF];exact Int.pow_pos om1
   have wM:=iJ 1 A;have wN:=iJ 0 N;have rm0:0<=wd 1 A%F:=Int.emod_nonneg _ om1;have rm1:wd 1 A%F<F:=Int.emod_lt_of_pos _ hF0;go_wp2_with fail
   refine(lbit_1 A F v _ hv31 hF).mono ?_;rintro e w2 ⟨rfl,hb2⟩;have hQN2:=hQN.keep hb2;have hA92:=hA9.keep hb2;have hbel2:=ae hbel hb2;clear hQN hA9 hbel q0 q1 q2 q3 q4 q5 q6 q7 sA a0 a1 a2 a3 a4 a5 a6 a7;have hQN:=hQN2;have hA9:=hA92;have hbel:=hbel2;clear hQN2 hA92 hbel2;have q0:=hQN.cell (k:=0) om1;have q1:=hQN.cell (k:=1) om1;have q2:=hQN.cell (k:=2) om1;have q3:=hQN.cell (k:=3) om1;have q4:=hQN.cell (k:=4) om1;have q5:=hQN.cell (k:=5) om1;have q6:=hQN.cell (k:=6) om1;have q7:=hQN.cell (k:=7) om1;have sA:=hA9.cs;have a0:_=some (Value.int .u64 (wd 0 A)):=hA9.c0;have a1:_=some (Value.int .u64 (wd 1 A)):=hA9.c1;have a2:_=some (Value.int .u64 (wd 2 A)):=hA9.c2;have a3:_=some (Value.int .u64 (wd 3 A)):=hA9.c3;have a4:_=some (Value.int .u64 (wd 4 A)):=hA9.c4;have a5:_=some (Value.int .u64 (wd 5 A)):=hA9.c5;have a6:_=some (Value.int .u64 (wd 6 A)):=hA9.c6;have a7:_=some (Value.int .u64 (wd 7 A)):=hA9.c7;rcases Int.emod_two_eq (wd 1 A/F) with hB|hB
   ·rw [hB];exact Xn
   ·rw [hB];have w00:=iJ 0 A;by_cases hR0:0<wd 0 A
    ·have HZ:Hid (Z=N+1):=Hid.mk'' (by rw [HRES.out,if_pos ⟨hB,Or.inl (Or.inl hR0)⟩]);go_wp2;refine wp_loop_rounds 2 ?_;rw [rounds_succ];go_wp2;exact Gv
    ·have hR0b:decide (0<wd 0 A)=false:=decide_eq_false hR0;by_cases hR1:0<wd 1 A%F
     ·have HZ:Hid (Z=N+1):=Hid.mk'' (by rw [HRES.out,if_pos ⟨hB,Or.inl (Or.inr hR1)⟩]);go_wp2;refine wp_loop_rounds 2 ?_;rw [rounds_succ];go_wp2;exact Gv
     ·by_cases hod:wd 0 N%2=1
      ·have HZ:Hid (Z=N+1):=Hid.mk'' (by rw [HRES.out,if_pos ⟨hB,Or.inr hod⟩]);have hodb:(wd 0 N%2==1)=true:=by simpa using hod
       go_wp2;refine wp_loop_rounds 2 ?_;rw [rounds_succ];go_wp2;exact Gv
      ·have HZ:Hid (Z=N):=Hid.mk'' (by rw [HRES.out,if_neg (by intro h;rcases h.2 with(h2|h2)|h2<;>omega)])
       have hodb:(wd 0 N%2==1)=false:=by simpa using hod
       go_wp2;refine wp_loop_rounds 2 ?_;rw [rounds_succ];go_wp2;exact Xm
end
section
open Go.RowKit Lg
namespace Lg
theorem EJ(A h:Int)(hh:0<h)(hA:0<=A):Qn.rne A (2*h)=if A/h%2=1/\(0<A%h\/A/(2*h)%2=1) then A/(2*h)+1 else A/(2*h):=by
 have e1:A/(2*h)=A/h/2:=by
  rw [Int.ediv_ediv,if_neg (fun h=>absurd h.1 om1),Int.sub_zero,Int.mul_comm]
 have e2:A%(2*h)=A/h%2*h+A%h:=by
  have a1:=Int.emod_add_mul_ediv A (2*h);have a2:=Int.emod_add_mul_ediv A h;have a3:=Int.emod_add_mul_ediv (A/h) 2;rw [e1] at a1;generalize A/h/2=y at*;generalize A/h%2=z at*;have:h*(A/h)=h*(z+2*y):=by rw [a3]
  rw [Int.mul_add,← Int.mul_assoc,Int.mul_comm h 2,Int.mul_comm h z] at this;omega
 have r0:=Int.emod_nonneg A (show h≠0 by omega);have r1:=Int.emod_lt_of_pos A hh;unfold Qn.rne;rw [e2];rcases Int.emod_two_eq (A/h) with c|c
 · rw [c,Int.zero_mul,if_pos (Or.inl om1),if_neg om1]
 · rw [c,Int.one_mul];by_cases c2:0<A%h
   · rw [if_neg om1,if_pos ⟨rfl,Or.inl c2⟩]
   · by_cases c3:A/(2*h)%2=1
     · rw [if_neg om1,if_pos ⟨rfl,Or.inr c3⟩]
     · rw [if_pos (Or.inr ⟨om1,om1⟩),if_neg (by intro h;rcases h.2 with h|h<;>omega)]
theorem Jm(X W F G:Int)(hF:0<F)(hW:F*(2*G)=W)(hG:0<G):X%W/F%2=X/F%2/\X%W%F=X%F:=by
 constructor
 · have a1:=Int.emod_add_mul_ediv X W
   have e:X/F=X%W/F+2*G*(X/W):=by
    have:X=X%W+F*(2*G*(X/W)):=by rw [← Int.mul_assoc,hW];omega
    conv=>lhs;rw [this]
    rw [Int.add_mul_ediv_left _ _ om1]
   rw [e,Int.mul_assoc,Int.add_mul_emod_self_left]
 · exact Int.emod_emod_of_dvd X ⟨2*G,hW.symm⟩
theorem YX(s:Bool)(Z:Int)(hZ:0<=Z):res s Z= .tuple #[.int .i64 (Qn.clamp (sgz s Z)), .bool (Qn.great (sgz s Z))]:=by
 by_cases h:Z<4611686018427387904
 · rw [Qw s Z h];cases s
   · have e1:Qn.clamp (sgz false Z)=Z:=by unfold sgz Qn.clamp;simp only [Bool.false_eq_true,if_false];rw [if_neg om1,if_neg om1]
     have e2:Qn.great (sgz false Z)=false:=by unfold sgz Qn.great;simp only [Bool.false_eq_true,if_false];rw [decide_eq_false om1,decide_eq_false om1];rfl
     rw [e1,e2];rfl
   · have e1:Qn.clamp (sgz true Z)= -Z:=by unfold sgz Qn.clamp;simp only [if_true];rw [if_neg om1,if_neg om1]
     have e2:Qn.great (sgz true Z)=false:=by unfold sgz Qn.great;simp only [if_true];rw [decide_eq_false om1,decide_eq_false om1];rfl
     rw [e1,e2];rfl
 · rw [Lm s Z h];cases s
   · have e1:Qn.clamp (sgz false Z)=4611686018427387903:=by unfold sgz Qn.clamp;simp only [Bool.false_eq_true,if_false];rw [if_pos om1]
     have e2:Qn.great (sgz false Z)=true:=by unfold sgz Qn.great;simp only [Bool.false_eq_true,if_false];rw [decide_eq_true (by omega:(4611686018427387903:Int)<Z)];rfl
     rw [e1,e2];rfl
   · have e1:Qn.clamp (sgz true Z)= -4611686018427387903:=by unfold sgz Qn.clamp;simp only [if_true];rw [if_neg om1,if_pos om1]
     have e2:Qn.great (sgz true Z)=true:=by unfold sgz Qn.great;simp only [if_true];rw [decide_eq_false (by omega: ¬(4611686018427387903:Int)< -Z),decide_eq_true (by omega: -Z<(-4611686018427387903:Int))];rfl
     rw [e1,e2];rfl
end Lg
theorem Vh(s:Bool)(A:Int)(b:Nat)(w:World)(hA0:0<=A)(hA1:A<=1606938044258990275541962092341162602522202993782792835301376)(hb:b<=62):
 Calls Tryz.prog 183 #[(.agg #[.bool s, .int .u64 (wd 0 A), .int .u64 (wd 1 A), .int .u64 (wd 2 A), .int .u64 (wd 3 A), .int .u64 (wd 4 A), .int .u64 (wd 5 A), .int .u64 (wd 6 A), .int .u64 (wd 7 A)]), .int .i64 b] w fun e w'=>e= .returned (res s (Qn.rne A (2^b)))/\Below w.heap.size w w':=by
 have h8:In8 A:=by unfold In8;omega
 have hdiv: ∀ B:Int,0<B->In8 (A/B)/\In8 (A/B+1):=by
  intro B hB;have h1:=Int.ediv_nonneg hA0 (Int.le_of_lt hB);have h2:=Int.ediv_le_self B hA0;unfold In8;omega
 by_cases h32:b<32
 ·obtain⟨u,hu⟩: ∃ u,b+u=32:=⟨32- b,om1⟩;have hB:(0:Int)<2^b:=Int.pow_pos om1;by_cases h0:b=0
  ·subst h0;have h:=by_zero s A 1 (2^u) A 0 u w h8 h8 om1 hu (by decide) rfl (by show A=A/(4294967296^0*1);simp) rfl;have e:Qn.rne A (2^0)=A:=Qn.Yv A;rw [e];exact h
  ·obtain⟨v,rfl⟩: ∃ v,b=v+1:=⟨b- 1,om1⟩;have hF:(0:Int)<2^v:=Int.pow_pos om1;have hBF:(2:Int)^(v+1)=2*2^v:=by rw [Int.pow_succ,Int.mul_comm]
   have hG:(2:Int)^v*(2*2^(31- v))=4294967296:=by
    rw [Int.mul_left_comm,← Int.pow_add,show v+(31- v)=31 by omega];decide
   obtain⟨l1,l2⟩:=Jm A 4294967296 (2^v) (2^(31- v)) hF hG (Int.pow_pos om1);refine(by_low s A (2^(v+1)) (2^u) (A/2^(v+1)) (v+1) u w h8 (hdiv _ hB).1 om1 hu rfl rfl (by show _=A/(4294967296^0*2^(v+1));simp) (2^v) v om1 rfl (hdiv _ hB).2 (Qn.rne A (2^(v+1))) ?_ rfl);show _=_;rw [hBF,EJ A (2^v) hF hA0];have e0:wd 0 A=A%4294967296:=rfl
   have e1:wd 0 (A/(2*2^v))%2=A/(2*2^v)%2:=by
    show A/(2*2^v)%4294967296%2=_;omega
   rw [e0,l1,l2,e1];simp only [false_or]
 ·obtain⟨sh,rfl⟩: ∃ sh,b=32+sh:=⟨b- 32,om1⟩;obtain⟨u,hu⟩: ∃ u,sh+u=32:=⟨32- sh,om1⟩;have hD:(0:Int)<2^sh:=Int.pow_pos om1;have hW:(2:Int)^(32+sh)=4294967296*2^sh:=by rw [Int.pow_add];rfl
  have hB:(0:Int)<4294967296*2^sh:=om1;have hcast:(((32+sh:Nat)):Int)=32+(sh:Int):=om1;rw [hW,hcast];by_cases h0:sh=0
  ·have e32:(4294967296:Int)*2^sh=2*2147483648:=by rw [h0];decide
   obtain⟨l1,l2⟩:=Jm A 4294967296 2147483648 1 om1 om1 om1;refine(by_mid s A (2^sh) (2^u) (A/(4294967296*2^sh)) sh u w h8 (hdiv _ hB).1 om1 hu rfl rfl (by show _=A/(4294967296^1*2^sh);simp) 2147483648 31 om1 (by decide) (hdiv _ hB).2 (Qn.rne A (4294967296*2^sh)) ?_ ⟨h0,rfl⟩);show _=_;rw [e32,EJ A 2147483648 om1 hA0];have e0:wd 0 A=A%4294967296:=rfl
   have e1:wd 0 (A/(2*2147483648))%2=A/(2*2147483648)%2:=by
    show A/(2*2147483648)%4294967296%2=_;omega
   rw [e0,l1,l2,e1];simp only [false_or]
  ·obtain⟨v,rfl⟩: ∃ v,sh=v+1:=⟨sh- 1,om1⟩;have hF:(0:Int)<2^v:=Int.pow_pos om1;have hH:(0:Int)<4294967296*2^v:=om1;have hBF:(4294967296:Int)*2^(v+1)=2*(4294967296*2^v):=by rw [Int.pow_succ];omega
   have hG:(2:Int)^v*(2*2^(31- v))=4294967296:=by
    rw [Int.mul_left_comm,← Int.pow_add,show v+(31- v)=31 by omega];decide
   obtain⟨l1,l2⟩:=Jm (A/4294967296) 4294967296 (2^v) (2^(31- v)) hF hG (Int.pow_pos om1);refine(YW s A (2^(v+1)) (2^u) (A/(4294967296*2^(v+1))) (v+1) u w h8 (hdiv _ hB).1 om1 hu rfl rfl (by show _=A/(4294967296^1*2^(v+1));simp) (2^v) v om1 rfl (hdiv _ hB).2 (Qn.rne A (4294967296*2^(v+1))) ?_ rfl);show _=_;rw [hBF,EJ A (4294967296*2^v) hH hA0];have e0:wd 1 A=A/4294967296%4294967296:=rfl
   have e1:wd 0 (A/(2*(4294967296*2^v)))%2=A/(2*(4294967296*2^v))%2:=by
    show A/(2*(4294967296*2^v))%4294967296%2=_;omega
   have e2:A/(4294967296*2^v)=A/4294967296/2^v:=by
    rw [Int.ediv_ediv,if_neg (fun h=>absurd h.1 om1),Int.sub_zero]
   have e3:A%(4294967296*2^v)=A%4294967296+4294967296*(A/4294967296%2^v):=by
    have a1:=Int.emod_add_mul_ediv A (4294967296*2^v);have a2:=Int.emod_add_mul_ediv (A/4294967296) (2^v);rw [e2,Int.mul_assoc] at a1;generalize 2^v*(A/4294967296/2^v)=y at*;omega
   have e4:wd 0 A=A%4294967296:=rfl;have m0:=Int.emod_nonneg (A/4294967296) (show(2:Int)^v≠0 by omega);have e5:(0<A%4294967296+4294967296*(A/4294967296%2^v))↔(0<A%4294967296\/0<A/4294967296%2^v):=om1;rw [e0,l1,l2,e1,e2,e3,e4];simp only [e5]
theorem YY(s:Bool)(A:Int)(b:Nat)(w:World)(hA0:0<=A)(hA1:A<=1606938044258990275541962092341162602522202993782792835301376)(hb:b<=62):
 Calls Tryz.prog 183 #[(.agg #[.bool s, .int .u64 (wd 0 A), .int .u64 (wd 1 A), .int .u64 (wd 2 A), .int .u64 (wd 3 A), .int .u64 (wd 4 A), .int .u64 (wd 5 A), .int .u64 (wd 6 A), .int .u64 (wd 7 A)]), .int .i64 b] w fun e w'=>e= .returned (.tuple #[.int .i64 (Qn.clamp (Qn.rne (sgz s A) (2^b))), .bool (Qn.great (Qn.rne (sgz s A) (2^b)))])/\Below w.heap.size w w':=by
 have hB:(0:Int)<2^b:=Int.pow_pos om1;refine(Vh s A b w hA0 hA1 hb).mono ?_;rintro e w' ⟨rfl,h⟩;refine⟨?_,h⟩
 have hZ:0<=Qn.rne A (2^b):=by
  have:=Int.ediv_nonneg hA0 (Int.le_of_lt hB);unfold Qn.rne;split<;>omega
 have e:Qn.rne (sgz s A) (2^b)=sgz s (Qn.rne A (2^b)):=by
  cases s
  · rfl
  · exact Qn.Ep A (2^b) hB
 rw [YX s _ hZ,e]
end
section
open Go.RowKit Lg Dt
attribute [local go_sem ↓] Go.wp_at_zero Go.wp_at_succ
namespace Lg
theorem fE.sets{w:World}{b:Nat}{s:Bool}{x0 x1 x2 x3 x4 x5 x6 x7:Int}(h:fE w b s x0 x1 x2 x3 x4 x5 x6 x7)(v:Bool):fE (w.setCell ⟨b,0,none⟩ (.bool v)) b v x0 x1 x2 x3 x4 x5 x6 x7:=heap_setCell_same w b 0 _ _ _ h
theorem sgz_bd{s:Bool}{A M:Int}(hA:0<=A)(h: -M<=sgz s A/\sgz s A<=M):A<=M:=by
 unfold sgz at h;split at h<;>omega
end Lg
theorem Lp(ao bo:Option Addr)(xa xb:Addr)(n ca cb:Nat)(za zb:Nat->Int)(b:Nat)(w:World)(hn:n<=64)(hao:0<n->ao=some xa)(hbo:0<n->bo=some xb)
 (hca: ∀ k,k<n->w.cell? (xa.add k)=some (.int .i64 (za k))) (hcb: ∀ k,k<n->w.cell? (xb.add k)=some (.int .i64 (zb k)))
 (ba: ∀ k,-9223372036854775808<=za k/\za k<=9223372036854775807) (bb: ∀ k,-9223372036854775808<=zb k/\zb k<=9223372036854775807) (hb:b<=62):
 Calls Tryz.prog 96 #[.slice ao n ca, .slice bo n cb, .int .i64 b] w fun e w'=>e= .returned (.tuple #[.int .i64 (Qn.clamp (Qn.rne (dk za zb n) (2^b))), .bool (Qn.great (Qn.rne (dk za zb n) (2^b)))])/\Below w.heap.size w w':=by
 have HAO:=Hid.mk'' hao;have HBO:=Hid.mk'' hbo;have HCA:=Hid.mk'' hca;have HCB:=Hid.mk'' hcb;have HBA:=Hid.mk'' ba;have HBB:=Hid.mk'' bb;have HDK:=Hid.mk'' (Yx za zb ba bb);obtain⟨X,hX⟩: ∃ X,X=Qn.rne (dk za zb n) (2^b):=⟨_,rfl⟩;rw [← hX];have HX:=Hid.mk'' hX;clear hao hbo hca hcb ba bb hX;go_enter Tryz.func96,Tryz.ntmps96
 go_wp2;go_loopw [9] (fun i wr=> ∃ (k:Nat) (s:Bool) (A:Int),k<=n/\i= .int .i64 (k:Int)/\fE wr w.heap.size s (wd 0 A) (wd 1 A) (wd 2 A) (wd 3 A) (wd 4 A) (wd 5 A) (wd 6 A) (wd 7 A)/\0<=A/\sgz s A=dk za zb k/\Below w.heap.size w wr) (fun i _=>n- (intOf i).toNat)
 case atStart=>exact⟨0,false,0,om1,rfl,jG w _ _ _ _ _ _ _ _ _,om1,rfl,af (Below.refl _ _) _⟩
 case round=>
  obtain⟨k,s,A,hk,rfl,hr,hA0,hsg,hbel⟩:=hrel;have hbk:=HDK.out k;have hA1:A<=5444517870735015415413993718908291383296:=sgz_bd hA0 (by rw [hsg];omega);have hA8:In8 A:=by unfold In8;omega
  have HSG:=Hid.mk'' hsg;clear hsg hbk;by_cases h:k<n
  ·obtain rfl:=HAO.out om1;obtain rfl:=HBO.out om1;have ca':=ah hbel (HCA.out k h);have cb':=ah hbel (HCB.out k h);have pa:=HBA.out k;have pb:=HBB.out k;have HNA:xa.block<w.heap.size:=World.block_lt_of_cell? w _ (HCA.out 0 om1);have HNB:xb.block<w.heap.size:=World.block_lt_of_cell? w _ (HCB.out 0 om1);have nA:xa.block≠w.heap.size:=Nat.ne_of_lt HNA;have nB:xb.block≠w.heap.size:=Nat.ne_of_lt HNB;have nA':(xa.add k).block≠w.heap.size:=by unfold Addr.add;split<;>exact nA
   have nB':(xb.add k).block≠w.heap.size:=by unfold Addr.add;split<;>exact nB
   obtain⟨P,hP⟩: ∃ P,P=za k:=⟨_,rfl⟩;obtain⟨Q,hQ⟩: ∃ Q,Q=zb k:=⟨_,rfl⟩;rw [← hP] at ca' pa;rw [← hQ] at cb' pb;have HP:=Hid.mk'' hP;have HQ:=Hid.mk'' hQ;clear hP hQ;have z0:=hr.c0;have z1:=hr.c1;have z2:=hr.c2;have z3:=hr.c3;have z4:=hr.c4;have z5:=hr.c5;have z6:=hr.c6;have z7:=hr.c7;have zs:=hr.cs;go_wp2
   go_region_with
    (first
     |(go_at_call 182;refine(Qo P Q _ pa.1 pa.2 pb.1 pb.2).mono ?_;rintro e w2 ⟨s2,C2,rfl,hC0,hC1,hC2,hb2⟩;have HC2:=Hid.mk'' hC2;clear hC2;have hr2:=hr.drew.keep hb2;have y0:=hr2.c0;have y1:=hr2.c1;have y2:=hr2.c2;have y3:=hr2.c3;have y4:=hr2.c4;have y5:=hr2.c5;have y6:=hr2.c6;have y7:=hr2.c7;have ys:=hr2.cs)
     |(go_at_call 181;refine(U9 s s2 A C2 _ hA8 (by unfold In8;omega) (by unfold In8;omega)).mono ?_;rintro e w3 ⟨s3,C3,rfl,h38,h3e,hb3⟩;have H3E:=Hid.mk'' h3e;clear h3e;have hr3:=hr2.keep hb3;have t0:=hr3.c0;have t1:=hr3.c1;have t2:=hr3.c2;have t3:=hr3.c3;have t4:=hr3.c4;have t5:=hr3.c5;have t6:=hr3.c6;have t7:=hr3.c7;have ts:=hr3.cs;have f0:=hr3.free 0;have f1:=hr3.free 1;have f2:=hr3.free 2;have f3:=hr3.free 3;have f4:=hr3.free 4;have f5:=hr3.free 5;have f6:=hr3.free 6;have f7:=hr3.free 7;have f8:=hr3.free 8))
   all_goals go_wp2
   all_goals go_roundw
   all_goals first
    |(simp [intOf];omega)
    |exact⟨k+1,s3,C3,om1,by go_num,(((((((((hr3.sets s3).set0 _).set1 _).set2 _).set3 _).set4 _).set5 _).set6 _).set7 _),h38.1,by rw [H3E.out,HC2.out,HSG.out,HP.out,HQ.out];rfl,(((((((((ae (ae hbel.drew hb2) hb3).setCell (Nat.le_refl _) _).setCell (Nat.le_refl _) _).setCell (Nat.le_refl _) _).setCell (Nat.le_refl _) _).setCell (Nat.le_refl _) _).setCell (Nat.le_refl _) _).setCell (Nat.le_refl _) _).setCell (Nat.le_refl _) _).setCell (Nat.le_refl _) _⟩
    |trace_state
  ·obtain rfl:k=n:=om1;have hz:=hr;go_wp2_with (first|(refine jf rfl (.tmp 8) rfl _ _ _ _ _ _ _ _ _ _ rfl hr ?_)|fail)
   refine(YY s A b _ hA0 om1 hb).mono ?_;rintro e w9 ⟨rfl,hb9⟩;rw [HSG.out,← HX.out];go_wp2;go_ret2;exact⟨rfl,ae hbel hb9⟩
end
section
open Go.RowKit Vc Dt
attribute [local go_sem ↓] Go.wp_at_zero Go.wp_at_succ
theorem Jn(ao bo:Option Addr)(n ca cb:Nat)(za zb:Nat->Int)(q:Int)(b:Nat)(w:World)(hq:q=(b:Int))(hn:n<=64)(ha:Sl w ao n ca za)(hb:Sl w bo n cb zb)(ba:B64 za)(bb:B64 zb)(hp:b<=62):
 Calls Tryz.prog 96 #[.slice ao n ca, .slice bo n cb, .int .i64 q] w fun e w'=>e= .returned (.tuple #[.int .i64 (Qn.clamp (Qn.rne (dk za zb n) (2^b))), .bool (Qn.great (Qn.rne (dk za zb n) (2^b)))])/\Below w.heap.size w w':=by
 subst hq;obtain⟨xa,hao,hca⟩:=ha.get;obtain⟨xb,hbo,hcb⟩:=hb.get;exact Lp ao bo xa xb n ca cb za zb b w hn hao hbo hca hcb ba bb hp
namespace Vc
theorem Sl.one{w:World}{x:Addr}{a:Int}(h:w.cell? x=some (.int .i64 a)):Sl w (some x) 1 1 (fun _=>a):=
 ⟨Nat.le_refl _,om1,fun k hk=>⟨x,rfl,by obtain rfl:k=0:=om1
                                        exact h⟩⟩
end Vc
end
section
open Go.RowKit Vc Dec
namespace Vc
theorem dX{z:Int}(h0: -99999999999999999999<=z)(h1:z<=99999999999999999999):(bZ z.natAbs).length<=1000000:=by
 have:=bH (show z.natAbs<10^20 by omega);omega
theorem pF(v:Value)(z:Int)(w:World)(hz:(bZ z.natAbs).length<=1000000)(h:bY w v z):
 Calls Tryz.prog 97 #[v] w fun e w'=>e= .returned (.tuple #[.int .i64 (Qn.clamp z), .bool (Qn.great z)])/\Below w.heap.size w w':=by
 unfold Qn.clamp Qn.great;exact Qr v z w hz h
def jh(w:World)(g:Nat)(z:Int):Prop:= ∃ a L c,gQ w g (.bool (decide (z<0))) (.slice a L c)/\bY w (.agg #[.bool (decide (z<0)), .slice a L c]) z
theorem Vj{B:Nat}{w w5:World}{z:Int}{a:Option Addr}{L c:Nat}(hB:Below B w w5)(i1:bY w5 (.agg #[.bool (decide (z<0)), .slice a L c]) z)(hs:B<=w5.heap.size):
 jh (w5.alloc (.cells #[.bool (decide (z<0)), .slice a L c] 190)) w5.heap.size z/\Below B w (w5.alloc (.cells #[.bool (decide (z<0)), .slice a L c] 190)):=
 ⟨⟨a,L,c,dD w5 _ _,i1.alloc _⟩,hB.trans ((af (Below.refl _ _) _).mono hs)⟩
theorem EK{B g:Nat}{w w5:World}{z:Int}{a:Option Addr}{L c:Nat}(hB:Below B w w5){p:Bool}{ao:Option Addr}{n cc:Nat}(r:gQ w5 g (.bool p) (.slice ao n cc))(hg:B<=g)(i1:bY w5 (.agg #[.bool (decide (z<0)), .slice a L c]) z):
 jh ((w5.setCell ⟨g,0,none⟩ (.bool (decide (z<0)))).setCell ⟨g,1,none⟩ (.slice a L c)) g z/\Below B w ((w5.setCell ⟨g,0,none⟩ (.bool (decide (z<0)))).setCell ⟨g,1,none⟩ (.slice a L c)):=
 ⟨⟨a,L,c,r.set2 _ _,i1.jC r _ _⟩,aV hB hg _ _⟩
end Vc
theorem vcqFa1{p:Prop}(h:p:=by
 go_region_held3 (fun w'=>w'.cell? (xa.add k)=some (.int .i64 P)/\w'.cell? (xb.add k)=some (.int .i64 Q)) (first
  |(refine⟨ah (W:=wo) ?_ c1,ah (W:=wo) ?_ c2⟩<;>first|with_reducible exact Below.refl _ _|with_reducible exact az _|with_reducible exact af (Below.refl _ _) _|with_reducible exact(af (Below.refl _ _) _).drew|with_reducible exact af (az _) _|with_reducible exact kX|with_reducible exact af kX _|with_reducible exact kY|with_reducible exact af kY _|with_reducible exact kZ|with_reducible exact af kZ _|with_reducible exact aV kZ om1 _ _))
  (first
  |(go_at_call_of 99 (Value.int IntKind.i64 P);refine(OA.out _).mono ?_;rintro e w3 ⟨v3,rfl,i3,k3⟩
    have kX:Below wo.heap.size wo w3:=by first|exact ae (az _) k3|exact ae (af (Below.refl _ _) _).drew k3|exact ae (af (az _) _) k3
    have z3:=kX.size
    try(have r0:gQ w3 wo.heap.size (.bool false) (.slice none 0 0):=by first|exact(dD wo _ _).drew.keep k3|exact(dD wo _ _).keep k3))
  |(go_at_call_of 99 (Value.int IntKind.i64 Q);refine(OB.out _).mono ?_;rintro e w4 ⟨v4,rfl,i4,k4⟩
    have kq:Below w3.heap.size w3 w4:=by first|exact k4|exact ae (af (Below.refl _ _) _) k4
    have kY:=ae kX kq;have i3':=i3.below kq;have z4:=kq.size;try(have r0':=r0.keep kq)
    try(have s0:gQ w4 w3.heap.size (.bool false) (.slice none 0 0):=(dD w3 _ _).keep k4))
  |(go_at_call 98;refine(AD.out _ _ _ (i3'.below ?_) (i4.below ?_)).mono ?_
    · first|exact Below.refl _ _|exact af (Below.refl _ _) _
    · first|exact Below.refl _ _|exact af (Below.refl _ _) _
    rintro e w5 ⟨v5,rfl,i5,k5⟩;have kr:Below w4.heap.size w4 w5:=by first|exact k5|exact ae (af (Below.refl _ _) _) k5
    have kZ:=ae kY kr;obtain⟨a5,L5,c5,e5⟩:=i5.form;subst e5;have z5:=kr.size;try(have r1:=r0'.keep kr;have q0:=r1.c0;have q1:=r1.c1;have q2:=r1.free 0;have q3:=r1.free 1)
    try(have s1:=s0.keep kr;have q0:=s1.c0;have q1:=s1.c1;have q2:=s1.free 0;have q3:=s1.free 1)
    try(have t1:gQ w5 w4.heap.size (.bool false) (.slice none 0 0):=(dD w4 _ _).keep k5;have q0:=t1.c0;have q1:=t1.c1;have q2:=t1.free 0;have q3:=t1.free 1)))
 all_goals go_wp2_with fail
 all_goals go_meet
 all_goals refine⟨_,rfl, ?_⟩
 all_goals first
  |(have h:=Vj kZ i5 om1;with_reducible exact⟨h.1,om1,h.2⟩)
  |(have h:=EK kZ r1 om1 i5;with_reducible exact⟨h.1,om1,h.2⟩)
  |(have h:=EK kZ s1 om1 i5;with_reducible exact⟨h.1,om1,h.2⟩)
  |(have h:=EK kZ t1 om1 i5;with_reducible exact⟨h.1,om1,h.2⟩)):p:=h
theorem vcqFa2{p:Prop}(h:p:=by
 rintro e w7 ⟨rfl,k7⟩;have hownC:=hownB.keep k7;cases T
 all_goals go_wp2_with (at_builtin;refine dm rl1 (.tmp 48) (.tmp 50) rl1 w.heap.size w _ k r rl1 hownC om1 R (by exact HR.out) rl1 ?_)
 all_goals intro v' w' hown'
 all_goals go_wp2
 all_goals go_roundw
 all_goals first
  |(simp [intOf];omega)
  |exact⟨k+1,om1,by go_num,by rw [HA.out];first|rfl|simp,hown'⟩):p:=h
theorem Jo(n ca cb:Nat)(ao bo:Option Addr)(za zb:Nat->Int)(w:World)(hn:n<=6)(ha:Sl w ao n ca za)(hb:Sl w bo n cb zb)(ba:B64 za)(bb:B64 zb):
 Calls Tryz.prog 115 #[.slice ao n ca, .slice bo n cb, .bool false] w fun e w'=> ∃ co cc,e= .returned (.tuple #[.slice co n cc, .bool (dN (fun k=>Qn.great (za k+zb k)) n)])/\Own w.heap.size w w' (.slice co n cc) n (fun k=>Qn.clamp (za k+zb k)):=by
 obtain⟨xa,hao,hca⟩:=ha.get;obtain⟨xb,hbo,hcb⟩:=hb.get;have h1:=ha.le;have h2:=ha.cap;have h3:=hb.le;have h4:=hb.cap;have HAO:=Hid.mkV hao;have HBO:=Hid.mkV hbo;have HCA:=Hid.mkV hca;have HCB:=Hid.mkV hcb;have HBA:=Hid.mkV ba;have HBB:=Hid.mkV bb;obtain⟨r,hr⟩: ∃ r:Nat->Int,r=fun k=>Qn.clamp (za k+zb k):=⟨_,rfl⟩;obtain⟨g,hg⟩: ∃ g:Nat->Bool,g=fun k=>Qn.great (za k+zb k):=⟨_,rfl⟩
 have HBD:Hid (∀ k v W,bY W v (za k+zb k)->Calls Tryz.prog 97 #[v] W fun e w'=>e= .returned (.tuple #[.int .i64 (r k), .bool (g k)])/\Below W.heap.size W w'):=by
  rw [hr,hg];exact fun k v W h=>pF v _ W (dX (by have:=ba k;have:=bb k;omega) (by have:=ba k;have:=bb k;omega)) h
 rw [← hr,← hg];clear hr hg ha hb hao hbo hca hcb ba bb;go_enter Tryz.func115,Tryz.ntmps115
 go_wp2;go_loopw [8,9,10] (fun out an i wr=> ∃ k:Nat,k<=n/\i= .int .i64 (k:Int)/\an= .bool (dN g k)/\Own w.heap.size w wr out k r) (fun _ _ i _=>n- (intOf i).toNat)
 case atStart=>exact⟨0,om1,rfl,rfl,Own.nil (Below.refl _ _) (Nat.le_refl _) _⟩
 case round=>
  rename World=>wo;obtain⟨k,hk,rfl,rfl,hown⟩:=hrel;by_cases h:k<n
  ·obtain rfl:=HAO.out om1;obtain rfl:=HBO.out om1;have c1:=ah hown.below (HCA.out k h);have c2:=ah hown.below (HCB.out k h);have pa:=HBA.out k;have pb:=HBB.out k;have HA:Hid (dN g (k+1)=(dN g k||g k)):=rfl;have HC:=Hid.mkV (HBD.out k);obtain⟨R,hR⟩: ∃ R,R=r k:=⟨_,rfl⟩;obtain⟨G,hG⟩: ∃ G,G=g k:=⟨_,rfl⟩;obtain⟨T,hT⟩: ∃ T,T=dN g k:=⟨_,rfl⟩;obtain⟨P,hP⟩: ∃ P,P=za k:=⟨_,rfl⟩;obtain⟨Q,hQ⟩: ∃ Q,Q=zb k:=⟨_,rfl⟩;rw [← hR,← hG,← hP,← hQ] at HC;rw [← hT,← hG] at HA;rw [← hT];rw [← hP] at c1 pa;rw [← hQ] at c2 pb;have HR:=Hid.mkV hR;clear hR hG hT hP hQ HBD HCA HCB HBA HBB HAO HBO;have OA:=Hid.mkV (fun W=>fJ P W pa.1 pa.2);have OB:=Hid.mkV (fun W=>fJ Q W pb.1 pb.2);have AD:=Hid.mkV (fun va vb W=>add_any va vb P Q W (dX om1 om1) (dX om1 om1));obtain⟨S,hS⟩: ∃ S,S=P+Q:=⟨_,rfl⟩;rw [← hS] at AD HC;clear hS;have hnew:w.heap.size<=wo.heap.size:=hown.base;go_upto_region 6 with fail
   go_cut [11] (fun p wx=> ∃ gn:Nat,p= .pointer (some ⟨gn,0,none⟩)/\jh wx gn S/\wo.heap.size<=gn/\Below wo.heap.size wo wx)
   case first=>
    exact vcqFa1
   case rest=>
    obtain⟨gn,rfl,⟨a6,L6,c6,hrow,inum⟩,hgn,kB⟩:=hcut;have y0:=hrow.c0;have y1:=hrow.c1;have hownB:=hown.keep kB;clear hrow;go_wp2_with fail
    refine(HC.out _ _ inum).mono ?_;exact vcqFa2
  ·obtain rfl:k=n:=om1;obtain⟨co,cc,rfl,hs⟩:=hown.sl;go_wp2;go_ret2;exact⟨_,_,rfl,hown⟩
end
section
open Go.RowKit Dec
attribute [local go_sem ↓] Go.wp_at_zero Go.wp_at_succ
namespace Dec
theorem Gx{w:World}{d:Value}{n:Nat}(h:Rd w d (bZ n)):bY w (.agg #[.bool false,d]) (n:Int):=
 ⟨d,by rw [decide_eq_false (Int.not_lt.2 (Int.natCast_nonneg n))],by rw [Int.natAbs_natCast];exact h⟩
theorem EL(n:Nat):(bZ (2^n)).length<=n+1:=by
 refine bH (Nat.lt_of_lt_of_le (Nat.pow_lt_pow_right (a:=2) om1 (Nat.lt_succ_self n)) (Nat.pow_le_pow_left om1 _))
end Dec
theorem QB{p:Prop}(h:p:=by
 have e:2^(30*(k+1))=T*1073741824:=by rw [HT.out,Nat.mul_add,Nat.pow_add]
 exact⟨k+1,a3,L3,c3,by go_num,om1,hrow3.set2 _ _,by rw [e];exact hn4.jC hrow3 _ _,(((hres.drew.keep hb2).keep hb3).other _ (show w.heap.size≠w1.heap.size by omega)).other _ (show w.heap.size≠w1.heap.size by omega),aV (ae (ae hbel.drew hb2) hb3) om1 _ _⟩):p:=h
theorem two_any(n:Nat)(w:World)(hn:n<=100000):
 Calls Tryz.prog 193 #[.int .i64 n] w fun e w'=> ∃ v,e= .returned v/\bY w' v ((2^n:Nat):Int)/\Below w.heap.size w w':=by
 have l30:(bZ (1073741824:Int).natAbs).length<=1000000:=by
  have:=bH (show(1073741824:Int).natAbs<10^10 by decide);omega
 have n0:(0:Int)<=(n:Int):=om1;have n1:(n:Int)<=100000:=om1;go_enter Tryz.func193,Tryz.ntmps193
 go_wp2_with fail
 refine(fJ 1 _ om1 om1).mono ?_;rintro e w1 ⟨v1,rfl,hn1,hb1⟩;obtain⟨a1,L1,c1,rfl⟩:=bY.NH (n:=1) hn1;have kB:gQ w1 w.heap.size (.bool false) (.slice none 0 0):=(dD w _ _).keep hb1;have hB1:Below w.heap.size w w1:=ae (af (Below.refl _ _) _) hb1;have hBl:w.heap.size<w1.heap.size:=by have:=hb1.size;simp at this;omega
 go_wp2;go_loopw [4] (fun i wr=> ∃ (k:Nat) (a:Option Addr) (L c:Nat),i= .int .i64 (30*(k:Int))/\30*k<=n/\gQ wr w1.heap.size (.bool false) (.slice a L c)/\bY wr (.agg #[.bool false, .slice a L c]) ((2^(30*k):Nat):Int)/\gQ wr w.heap.size (.bool false) (.slice none 0 0)/\Below w.heap.size w wr) (fun i _=>n- (intOf i).toNat)
 case atStart=>exact⟨0,a1,L1,c1,rfl,om1,dD w1 _ _,hn1.below (af (Below.refl _ _) _),kB.alloc _,af hB1 _⟩
 case round=>
  obtain⟨k,a,L,c,rfl,hk,hrow,hnum,hres,hbel⟩:=hrel;have x0:=hrow.c0;have x1:=hrow.c1;by_cases h1:30*k+30<=n
  ·have f0:=hrow.free 0;have f1:=hrow.free 1;have hl:=EL (30*k);obtain⟨T,hT⟩: ∃ T,T=2^(30*k):=⟨_,rfl⟩;rw [← hT] at hl hnum;have HT:=Hid.mk' hT;clear hT;go_wp2
   go_region_with
    (first
     |(go_at_call 99;refine(fJ 1073741824 _ om1 om1).mono ?_;rintro e w2 ⟨v2,rfl,hn2,hb2⟩;have y0:=ah hb2 x0;have y1:=ah hb2 x1)
     |(go_at_call 180;refine(mul_any _ _ (T:Int) 1073741824 _ (by rw [qI];omega) l30 (hnum.below (ae (Below.refl _ _).drew hb2)) hn2).mono ?_;rintro e w3 ⟨v3,rfl,hn3,hb3⟩;have hn4:bY w3 v3 ((T*1073741824:Nat):Int):=(by simpa using hn3);obtain⟨a3,L3,c3,hv3⟩:=hn4.NH;subst hv3;have hrow3:=(hrow.drew.keep hb2).keep hb3;have g0:=hrow3.c0;have g1:=hrow3.c1;have g2:=hrow3.free 0;have g3:=hrow3.free 1))
   all_goals go_wp2
   all_goals go_roundw
   case rel=>
    exact QB
   case measure=>simp [intOf];omega
   case rel=>
    exact QB
   case measure=>simp [intOf];omega
  ·have hmod:(n:Int)%30=((n- 30*k:Nat):Int):=om1;go_wp2;go_loopw [5] (fun i ws=> ∃ (j:Nat) (a:Option Addr) (L c:Nat),i= .int .i64 (j:Int)/\j<=n- 30*k/\gQ ws w1.heap.size (.bool false) (.slice a L c)/\bY ws (.agg #[.bool false, .slice a L c]) ((2^(30*k+j):Nat):Int)/\gQ ws w.heap.size (.bool false) (.slice none 0 0)/\Below w.heap.size w ws) (fun i _=>n- 30*k- (intOf i).toNat)
   case atStart=>exact⟨0,a,L,c,rfl,om1,hrow,hnum,hres,hbel⟩
   case round=>
    clear hrow hnum hres hbel x0 x1;obtain⟨j,a,L,c,rfl,hj,hrow,hnum,hres,hbel⟩:=hrel;have x0:=hrow.c0;have x1:=hrow.c1;by_cases h2:j<n- 30*k
    ·have hl:=EL (30*k+j);obtain⟨T,hT⟩: ∃ T,T=2^(30*k+j):=⟨_,rfl⟩;rw [← hT] at hl hnum;have HT:=Hid.mk' hT;clear hT;go_wp2_with fail
     refine(add_any _ _ (T:Int) (T:Int) _ (by rw [qI];omega) (by rw [qI];omega) hnum hnum).mono ?_;rintro e w3 ⟨v3,rfl,hn3,hb3⟩;have hn4:bY w3 v3 ((T+T:Nat):Int):=(by simpa using hn3);obtain⟨a3,L3,c3,hv3⟩:=hn4.NH;subst hv3;have hrow3:=hrow.keep hb3;have g0:=hrow3.c0;have g1:=hrow3.c1;have g2:=hrow3.free 0;have g3:=hrow3.free 1;go_wp2;go_roundw
     case rel=>
      have e:2^(30*k+(j+1))=T+T:=by rw [HT.out,← Nat.add_assoc,Nat.pow_succ];omega
      exact⟨j+1,a3,L3,c3,by go_num,om1,hrow3.set2 _ _,by rw [e];exact hn4.jC hrow3 _ _,((hres.keep hb3).other _ (show w.heap.size≠w1.heap.size by omega)).other _ (show w.heap.size≠w1.heap.size by omega),aV (ae hbel hb3) om1 _ _⟩
     case measure=>simp [intOf];omega
    ·have ej:30*k+j=n:=om1;rw [ej] at hnum;have y0:=hres.c0;have y1:=hres.c1;have y2:=hres.free 0;have y3:=hres.free 1;go_wp2;have e5:=hres.set2 (.bool false) (.slice a L c);have t0:=e5.c0;have t1:=e5.c1;refine bodyPost_ret (v:= .agg #[.bool false, .slice a L c]) ?_ rfl ⟨_,rfl,hnum.jC hres _ _,aV hbel (Nat.le_refl _) _ _⟩;clear e5 y0 y1 y2 y3 x0 x1;revert t0 t1;generalize (wr.setCell ⟨w.heap.size,0,none⟩ (.bool false)).setCell ⟨w.heap.size,1,none⟩ (.slice a L c)=W5;intro t0 t1;simp [results,Tryz.results193,go_sem,t0,t1]
end
end Go.Proofs.YtcefcokpjbebhaaGreatDoor
