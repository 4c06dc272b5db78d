/-
  The document's answer of layer 17 (radomeref17): which confs and Imms may be; One.
-/
import Derived.Test.YtcefcokpjbebhaaGreatDoorM47
import Derived.Test.YtcefcokpjbebhaaGreatDoorM32
import Derived.Test.YtcefcokpjbebhaaGreatDoorM29
import Derived.Test.YtcefcokpjbebhaaGreatDoorMoR
import Derived.Test.YtcefcokpjbebhaaGreatDoorM8
import Derived.Test.YtcefcokpjbebhaaGreatDoorM20
import Derived.Deep.DeepCutAuto
set_option linter.unusedSimpArgs false
set_option linter.unusedVariables false
set_option maxHeartbeats 4000000
set_option maxRecDepth 20000
namespace Go.Proofs.YtcefcokpjbebhaaGreatDoor
section
open Go.RowKit Vc St Mt Cn Mx Im El
attribute [local go_sem ↓] Go.wp_at_zero Go.wp_at_succ
namespace Im
theorem isCf:Is 25 3:=⟨by kernel_rfl,⟨_,Tryz.underlying25,rfl⟩⟩
theorem isM:Tryz.prog.underlying 97=some (.struct (Tryz.prog.fieldsOf 97)):=by kernel_rfl
theorem sizeM:(Tryz.prog.info? 97).map (·.size)=some 3:=by kernel_rfl
theorem run_loadM(w:World)(x:Addr)(u v z:Value)(h0:w.cell? x=some u)(h1:w.cell? (x.add 1)=some v)(h2:w.cell? (x.add 2)=some z):(Instr.loadAt 97 (.pointer (some x))).run Tryz.prog w= .ok (.agg #[u,v,z]) w:=by
 have hl:(loadCells x [u,v,z].length).run Tryz.prog w= .ok [u,v,z].toArray w:=run_loadCells_list (P:=Tryz.prog) w x [u,v,z] (fun j y hv=>by
  match j,hv with
  |0,hv=>rw [addr_at0];simp at hv;subst hv;exact h0
  |1,hv=>simp at hv;subst hv;exact h1
  |2,hv=>simp at hv;subst hv;exact h2)
 have hv:(loadVar 97 x).run Tryz.prog w= .ok (.agg #[u,v,z]) w:=by
  cases hq:Tryz.prog.info? 97 with
  |none=>have:=sizeM;rw [hq] at this;cases this
  |some i=>
   have hs:i.size=3:=by have:=sizeM;rw [hq] at this;simpa using this
   have hagg:(isAgg 97).run Tryz.prog w= .ok true w:=by
    unfold isAgg;rw [Sem.run_bind,run_underlying isM w];simp
   simp [loadVar,Sem.run_bind,hagg,sizeOf,typeInfo,hq,hs];simp at hl;simp [hl]
 simp only [Instr.loadAt,Instr.sureAddr,Sem.run_bind,Sem.run_pure,Result.andThen_ok,hv]
theorem yieldsM{ops:Array Oper}{S:World->Prop}{o:Oper}{a:Act}(hw:Region.wanted o (yielded ops a.tmps)=true)(x:Operand)(ho:o.op= .load 97 x)(ad:Addr)(u v z:Value)(hx:a.eval x= .pointer (some ad))
 (hS: ∀ w,S w->w.cell? ad=some u/\w.cell? (ad.add 1)=some v/\w.cell? (ad.add 2)=some z):YieldsIf Tryz.prog ops S o (.agg #[u,v,z]) a:=
 .inl ⟨hw,fun w h=>by
  unfold execOp
  simp only [ho,hx,Sem.run_bind,run_loadM w ad u v z (hS w h).1 (hS w h).2.1 (hS w h).2.2,Result.andThen_ok,Sem.run_pure]⟩
end Im
theorem dmay17_any(mo ro:Option Addr)(n mc q rc:Nat)(K V N:Nat->Int)(A:Nat->Option Addr)(L C:Nat->Nat)(R:Nat->Nat->Int)(fl:Int)(b:Bool)(w:World)(hm:Dmt w mo n mc K V N)(hs:Sls w ro q rc A L C)(hr: ∀ i,i<q->Sl w (A i) (L i) (C i) (R i))(bR: ∀ i,B64 (R i))
 (hb:b=true↔MayC n q K V N L R fl):
 Calls Tryz.prog 13 #[.agg #[.slice mo n mc, .slice ro q rc, .int .i64 fl]] w fun e w'=>e= .returned (.bool b)/\Below w.heap.size w w':=by
 have l1:=hm.le;have l2:=hm.cap;have l3:=hs.le;have l4:=hs.cap;obtain⟨x,hmo,hmc⟩:=hm.get;obtain⟨y,hro,hrc⟩:=hs.get;have NO:=hidC (fun(q:Prop) (h1:b=true->q) (h2: ¬q)=>(by cases b<;>simp_all:b=false))
 have HB:=hidC hb;by_cases h0:1<=n/\n<=4/\q=n/\0<=fl/\fl<=67108864
 ·obtain⟨n1,n4,rfl,f0,f1⟩:=h0;have m0:=crow_new w 25 [.slice mo q mc, .slice ro q rc, .int .i64 fl];have B0:=below_al (Below.refl _ w) (.cells [.slice mo q mc, .slice ro q rc, .int .i64 fl].toArray 25);obtain⟨W,hW⟩: ∃ W,W=w.alloc (.cells [.slice mo q mc, .slice ro q rc, .int .i64 fl].toArray 25):=⟨_,rfl⟩;rw [← hW] at m0 B0;have HW:=hidC hW;have HM:=hidC m0;have HB0:=hidC B0;obtain rfl:=hmo om0;obtain rfl:=hro om0;have HMC:=hidC hmc;have HRC:=hidC hrc;have HR:=hidC hr;have c0:W.cell? ⟨w.heap.size,0,none⟩=some (.slice (some x) q mc):=CRow.cell m0 (k:=0) rfl rfl;have c1:W.cell? ⟨w.heap.size,1,none⟩=some (.slice (some y) q rc):=CRow.cell m0 (k:=1) rfl rfl;have c2:W.cell? ⟨w.heap.size,2,none⟩=some (.int .i64 fl):=CRow.cell m0 (k:=2) rfl rfl;have i1: ¬(q:Int)<1:=om0;have i2:(q:Int)<=4:=om0;have i3: ¬4<(q:Int):=om0;have i4: ¬fl<0:=om0;have i5: ¬67108864<fl:=om0;clear hW m0 B0 hm hs hr hmc hrc hb;go_enter Tryz.func13,Tryz.ntmps13
  go_wp2_with (first|(rw [← HW.out])|fail)
  go_loopw [4] (fun i wr=> ∃ k:Nat,k<=q/\i= .int .i64 (k:Int)/\(∀ j,j<k->Mo.MayM (K j) (V j) (N j)/\L j=q/\Ch q (R j) 0)/\Below W.heap.size W wr) (fun i _=>q- (intOf i).toNat)
  case atStart=>exact⟨0,om0,rfl,fun j hj=>by omega,Below.refl _ _⟩
  case round=>
   rename World=>wr;obtain⟨k,hk,rfl,hj,kb⟩:=hrel;by_cases hkn:k<q
   ·have HJ:=hidC hj;have HKB:=hidC kb;obtain⟨a0,a1,a2⟩:=HMC.out k hkn;have a0:=hidC (keep_cell (below_tr HB0.out kb) a0);have a1:=hidC (keep_cell (below_tr HB0.out kb) a1);have a2:=hidC (keep_cell (below_tr HB0.out kb) a2);have d0:wr.cell? ⟨w.heap.size,0,none⟩=some (.slice (some x) q mc):=keep_cell kb c0;have kn:(k:Int)<q:=om0;clear hj c0 c1 c2;by_cases hM:Mo.MayM (K k) (V k) (N k)
    ·have D1:=hidC (fun W=>dmay_yes (K k) (V k) (N k) W hM);obtain⟨Kk,hKk⟩: ∃ z,z=K k:=⟨_,rfl⟩;obtain⟨Vk,hVk⟩: ∃ z,z=V k:=⟨_,rfl⟩;obtain⟨Nk,hNk⟩: ∃ z,z=N k:=⟨_,rfl⟩;rw [← hKk,← hVk,← hNk] at D1;rw [← hKk] at a0;rw [← hVk] at a1;rw [← hNk] at a2;have HMk:=hidC hM;clear hKk hVk hNk kb hM
     go_wp2_with (first
      |(refine wpList_loadV rfl 97 _ rl0 (x.add (k*3)) (.agg #[.int .i64 Kk, .int .i64 Vk, .int .i64 Nk]) rl0 (run_loadM _ _ _ _ _ a0.out a1.out a2.out) ?_)
      |fail)
     refine(D1.out _).mono ?_;rintro e w2 ⟨rfl,k2⟩;have HK2:=hidC (below_tr HKB.out k2);have d1:w2.cell? ⟨w.heap.size,1,none⟩=some (.slice (some y) q rc):=CRow.cell (CRow.keep HM.out HK2.out) (k:=1) rfl rfl;have r0:=keep_cell (below_tr HB0.out HK2.out) (HRC.out k hkn);have s0:=(HR.out k hkn).keep (below_tr HB0.out HK2.out);have l5:=s0.le;have l6:=s0.cap;by_cases hL:L k=q
     ·rw [hL] at r0 s0 l5;by_cases hC:Ch q (R k) 0
      ·have D2:=hidC (dcheck14_any (A k) q (C k) (R k) 0 w2 s0 (bR k) true ⟨fun _=>hC,fun _=>rfl⟩ om0 om0);have G:=hidC (⟨HMk.out,hL,hC⟩:Mo.MayM (K k) (V k) (N k)/\L k=q/\Ch q (R k) 0);obtain⟨u,hu⟩: ∃ z,z=A k:=⟨_,rfl⟩;obtain⟨v,hv⟩: ∃ z,z=C k:=⟨_,rfl⟩;rw [← hu,← hv] at D2 r0;rw [← hv] at l5 l6;clear hu hv hC hL k2 s0 d0 a0 a1 a2;go_wp2_with fail
       refine(D2.out).mono ?_;rintro e w3 ⟨rfl,k3⟩;have HK3:=hidC (below_tr HK2.out k3);clear k3 d1 r0;go_wp2;go_roundw
       case rel=>exact⟨k+1,om0,by go_num,fun j hj=>by
        by_cases e:j=k
        ·rw [e];exact G.out
        ·exact HJ.out j om0,HK3.out⟩
       case measure=>simp [intOf];omega
      ·have D2:=hidC (dcheck14_any (A k) q (C k) (R k) 0 w2 s0 (bR k) false ⟨fun e=>(by cases e),fun e=>absurd e hC⟩ om0 om0);have hbf:b=false:=NO.out _ HB.out.1 fun e=>hC (e.each k hkn).2.2;subst hbf;obtain⟨u,hu⟩: ∃ z,z=A k:=⟨_,rfl⟩;obtain⟨v,hv⟩: ∃ z,z=C k:=⟨_,rfl⟩;rw [← hu,← hv] at D2 r0;rw [← hv] at l5 l6;clear hu hv hC hL k2 s0 d0 a0 a1 a2;go_wp2_with fail
       refine(D2.out).mono ?_;rintro e w3 ⟨rfl,k3⟩;have HK3:=hidC (below_tr HB0.out (below_tr HK2.out k3));clear k3 d1 r0;go_wp2;go_ret;exact⟨rfl,HK3.out⟩
     ·have hbf:b=false:=NO.out _ HB.out.1 fun e=>hL (e.each k hkn).2.1;subst hbf;have hL': ¬(L k:Int)=q:=om0;obtain⟨u,hu⟩: ∃ z,z=A k:=⟨_,rfl⟩;obtain⟨v,hv⟩: ∃ z,z=C k:=⟨_,rfl⟩;obtain⟨lk,hlk⟩: ∃ z,z=L k:=⟨_,rfl⟩;rw [← hu,← hv,← hlk] at r0;rw [← hlk] at hL';have HK3:=hidC (below_tr HB0.out HK2.out);clear hu hv hlk hL k2 s0 d0 a0 a1 a2 l5 l6;go_wp2;go_ret;exact⟨rfl,HK3.out⟩
    ·have D1:=hidC (fun W=>dmay_no (K k) (V k) (N k) W hM);have hbf:b=false:=NO.out _ HB.out.1 fun e=>hM (e.each k hkn).1;subst hbf;obtain⟨Kk,hKk⟩: ∃ z,z=K k:=⟨_,rfl⟩;obtain⟨Vk,hVk⟩: ∃ z,z=V k:=⟨_,rfl⟩;obtain⟨Nk,hNk⟩: ∃ z,z=N k:=⟨_,rfl⟩;rw [← hKk,← hVk,← hNk] at D1;rw [← hKk] at a0;rw [← hVk] at a1;rw [← hNk] at a2;clear hKk hVk hNk kb hM
     go_wp2_with (first
      |(refine wpList_loadV rfl 97 _ rl0 (x.add (k*3)) (.agg #[.int .i64 Kk, .int .i64 Vk, .int .i64 Nk]) rl0 (run_loadM _ _ _ _ _ a0.out a1.out a2.out) ?_)
      |fail)
     refine(D1.out _).mono ?_;rintro e w2 ⟨rfl,k2⟩;have HK3:=hidC (below_tr HB0.out (below_tr HKB.out k2));clear k2 d0 a0 a1 a2;go_wp2;go_ret;exact⟨rfl,HK3.out⟩
   ·obtain rfl:q=k:=om0;have hbt:b=true:=HB.out.2 ⟨n1,n4,rfl,f0,f1,hj⟩;subst hbt;have HK3:=hidC (below_tr HB0.out kb);clear hj c0 c1 c2;go_wp2;go_ret;exact⟨rfl,HK3.out⟩
 ·have hbf:b=false:=NO.out _ HB.out.1 fun e=>h0 ⟨e.one,e.four,e.rows,e.lo,e.hi⟩;subst hbf;have B0:=below_al (Below.refl _ w) (.cells [.slice mo n mc, .slice ro q rc, .int .i64 fl].toArray 25);clear hm hs hr hmo hmc hro hrc hb bR HB NO;by_cases i1:(n:Int)<1
  ·go_enter Tryz.func13,Tryz.ntmps13
   go_wp2;go_ret;exact⟨rfl,B0⟩
  ·by_cases i2:4<(n:Int)
   ·go_enter Tryz.func13,Tryz.ntmps13
    go_wp2;go_ret;exact⟨rfl,B0⟩
   ·by_cases i3:(q:Int)=n
    ·by_cases i4:fl<0
     ·go_enter Tryz.func13,Tryz.ntmps13
      go_wp2;go_ret;exact⟨rfl,B0⟩
     ·have i5:67108864<fl:=om0;go_enter Tryz.func13,Tryz.ntmps13
      go_wp2;go_ret;exact⟨rfl,B0⟩
    ·go_enter Tryz.func13,Tryz.ntmps13
     go_wp2;go_ret;exact⟨rfl,B0⟩
theorem dfits17_any(mo ro lo ho:Option Addr)(n mc q rc l cm m hc:Nat)(fl:Int)(bc bx b:Bool)(w:World)
 (hC: ∀ W,Below w.heap.size w W->Calls Tryz.prog 13 #[.agg #[.slice mo n mc, .slice ro q rc, .int .i64 fl]] W fun e w'=>e= .returned (.bool bc)/\Below W.heap.size W w')
 (hX: ∀ W,Below w.heap.size w W->Calls Tryz.prog 17 #[.slice lo l cm, .slice ho m hc] W fun e w'=>e= .returned (.bool bx)/\Below W.heap.size W w')
 (hb:b=true↔bc=true/\l=n/\bx=true):
 Calls Tryz.prog 38 #[.agg #[.slice mo n mc, .slice ro q rc, .int .i64 fl], .agg #[.slice lo l cm, .slice ho m hc]] w fun e w'=>e= .returned (.bool b)/\Below w.heap.size w w':=by
 have m0:=(crow_new w 25 [.slice mo n mc, .slice ro q rc, .int .i64 fl]).alloc (.cells [.slice lo l cm, .slice ho m hc].toArray 29);have m1:=crow_new1 w (.cells [.slice mo n mc, .slice ro q rc, .int .i64 fl].toArray 25) 29 [.slice lo l cm, .slice ho m hc];have B0:=below_al (below_al (Below.refl _ w) (.cells [.slice mo n mc, .slice ro q rc, .int .i64 fl].toArray 25)) (.cells [.slice lo l cm, .slice ho m hc].toArray 29);obtain⟨W,hW⟩: ∃ W,W=(w.alloc (.cells [.slice mo n mc, .slice ro q rc, .int .i64 fl].toArray 25)).alloc (.cells [.slice lo l cm, .slice ho m hc].toArray 29):=⟨_,rfl⟩;rw [← hW] at m0 m1 B0;have HW:=hidC hW;have H0:=hidC m0;have H1:=hidC m1;have HB0:=hidC B0;have D1:=hidC (hC W B0);have D2:=hidC hX;have HB:=hidC hb;clear hW m0 m1 B0 hC hX hb;go_enter Tryz.func38,Tryz.ntmps38
 go_wp2_with (first
  |(rw [← HW.out])
  |((with_reducible show wpList _ _ _ _ _ _);refine Ud.loadC isCf _ (by with_reducible rfl) w.heap.size _ rl0 H0.out rfl (by kernel_rfl) ?_)
  |fail)
 refine(D1.out).mono ?_;rintro e w1 ⟨rfl,k1⟩;have d0:w1.cell? ⟨w.heap.size,0,none⟩=some (.slice mo n mc):=CRow.cell (CRow.keep H0.out k1) (k:=0) rfl rfl;have d1:w1.cell? ⟨w.heap.size+1,0,none⟩=some (.slice lo l cm):=CRow.cell (CRow.keep H1.out k1) (k:=0) rfl rfl;have d2:w1.cell? ⟨w.heap.size+1,1,none⟩=some (.slice ho m hc):=CRow.cell (CRow.keep H1.out k1) (k:=1) rfl rfl;have HK:=hidC (below_tr HB0.out k1);have D3:=hidC (D2.out w1 HK.out);clear k1 D1 D2;cases bc
 ·have hbf:b=false:=by cases b<;>first|rfl|exact absurd (HB.out.1 rfl).1 (by decide)
  subst hbf;go_wp2;go_ret;exact⟨rfl,HK.out⟩
 ·by_cases e:l=n
  ·subst e
   have hbe:b=bx:=by
    cases b<;>cases bx<;>first|rfl|exact absurd (HB.out.1 rfl).2.2 (by decide)|exact absurd (HB.out.2 ⟨rfl,rfl,rfl⟩) (by decide)
   subst hbe;clear HB;go_wp2_with fail
   refine(D3.out).mono ?_;rintro e w2 ⟨rfl,k2⟩;have HK2:=hidC (below_tr HK.out k2);clear k2 d0 d1 d2;cases b
   all_goals go_wp2
   all_goals go_ret
   all_goals exact⟨rfl,HK2.out⟩
  ·have e': ¬(l:Int)=n:=om0;have hbf:b=false:=by cases b<;>first|rfl|exact absurd (HB.out.1 rfl).2.1 e
   subst hbf;clear HB;go_wp2;go_ret;exact⟨rfl,HK.out⟩
theorem done17_any(lo ho xo po:Option Addr)(l cm m hc xc pm:Nat)(X:Nat->Int)(F:Nat->Nat->Int)(o:Bool)(w:World)
 (hJ: ∀ W,Below w.heap.size w W->Calls Tryz.prog 52 #[.slice lo l cm, .slice ho m hc] W fun e w'=> ∃ xo xc po pm,e= .returned (.tuple #[.agg #[.slice xo 6 xc, .slice po 6 pm], .bool o])/\JoinR W w' X F xo xc po pm):
 Calls Tryz.prog 18 #[.agg #[.slice lo l cm, .slice ho m hc]] w fun e w'=> ∃ xo xc po pm,e= .returned (.tuple #[.agg #[.slice xo 6 xc, .slice po 6 pm], .bool o])/\Sl w' xo 6 xc X/\Grid w' po 6 pm 6 F/\Below w.heap.size w w':=by
 have m1:=(crow_new w 29 [.slice lo l cm, .slice ho m hc]).alloc (.cells [.slice none 0 0, .slice none 0 0].toArray 60);have r0:=crow_new1 w (.cells [.slice lo l cm, .slice ho m hc].toArray 29) 60 [.slice none 0 0, .slice none 0 0];have B0:=below_al (below_al (Below.refl _ w) (.cells [.slice lo l cm, .slice ho m hc].toArray 29)) (.cells [.slice none 0 0, .slice none 0 0].toArray 60);obtain⟨W,hW⟩: ∃ W,W=(w.alloc (.cells [.slice lo l cm, .slice ho m hc].toArray 29)).alloc (.cells [.slice none 0 0, .slice none 0 0].toArray 60):=⟨_,rfl⟩;rw [← hW] at m1 r0 B0;have HW:=hidC hW;have d1:W.cell? ⟨w.heap.size,0,none⟩=some (.slice lo l cm):=CRow.cell m1 (k:=0) rfl rfl;have d2:W.cell? ⟨w.heap.size,1,none⟩=some (.slice ho m hc):=CRow.cell m1 (k:=1) rfl rfl;have D1:=hidC (hJ W B0);have HR:=hidC r0;have HB0:=hidC B0;clear hW m1 r0 B0 hJ;go_enter Tryz.func18,Tryz.ntmps18
 go_wp2_with (first|(rw [← HW.out])|fail)
 refine(D1.out).mono ?_;rintro e w1 ⟨yo,yc,qo,qm,rfl,k1,f1⟩;have r1:=CRow.keep HR.out k1;have B1:=below_tr HB0.out k1;have lr:=CRow.lt HR.out;have hs:=f1.row (g:=w.heap.size+1) om0 [.slice yo 6 yc, .slice qo 6 qm].toArray;have rR:=CRow.row r1 [.slice yo 6 yc, .slice qo 6 qm];have bR:=St.below_row B1 (g:=w.heap.size+1) om0 [.slice yo 6 yc, .slice qo 6 qm].toArray;clear d1 d2 D1 f1 k1
 go_wp2_with (first
  |(refine St.wpList_store Pr.isRs rl0 _ _ rl0 _ [.slice none 0 0, .slice none 0 0] [.slice yo 6 yc, .slice qo 6 qm] rl0 rl0 (by with_reducible exact r1) rfl rfl (one2s _ _ _ _ _ _) ?_)
  |fail)
 exact bodyPost_ret (results_2 Pr.isRs Tryz.results18 _ _ (w.heap.size+1) [.slice yo 6 yc, .slice qo 6 qm] rfl rR rfl) rfl ⟨_,_,_,_,rfl,hs.self.1,hs.self.2,bR⟩
end
section
open Go.RowKit Vc St Mt Cn Mx Im El
attribute [local go_sem ↓] Go.wp_at_zero Go.wp_at_succ
namespace Im
theorem isIm:Is 29 2:=⟨by kernel_rfl,⟨_,Tryz.underlying29,rfl⟩⟩
structure Dls(w:World)(lo:Option Addr)(n cm:Nat)(X:Nat->Nat->Int)(P:Nat->Nat->Nat->Int):Prop where
 ex: ∃ (A pl:Nat->Option Addr) (C pc:Nat->Nat),Dst w lo n cm (fun k=> .slice (A k) 6 (C k)) (fun k=> .slice (pl k) 6 (pc k))/\ ∀ k,k<n->Sl w (A k) 6 (C k) (X k)/\Grid w (pl k) 6 (pc k) 6 (P k)
theorem Dls.keep{w w':World}{lo:Option Addr}{n cm:Nat}{X:Nat->Nat->Int}{P:Nat->Nat->Nat->Int}(h:Dls w lo n cm X P)(b:Below w.heap.size w w'):Dls w' lo n cm X P:=by
 obtain⟨A,pl,C,pc,h1,h2⟩:=h.ex;exact⟨A,pl,C,pc,h1.keep b,fun k hk=>⟨(h2 k hk).1.keep b,(h2 k hk).2.keep b⟩⟩
theorem Dls.nil(w:World)(X:Nat->Nat->Int)(P:Nat->Nat->Nat->Int):Dls w none 0 0 X P:=
 ⟨fun _=>none,fun _=>none,fun _=>0,fun _=>0,⟨Nat.le_refl _,om0,fun k hk=>by omega⟩,fun k hk=>by omega⟩
theorem lsn_dls{t:TypeId}{o:Nat}{w:World}{v u:Value}{n m:Nat}{X:Nat->Nat->Int}{P:Nat->Nat->Nat->Int}{z:Nat->Int}(h:El.Lsn t 2 o w v n (StR X P) u m z): ∃ lo cm,v= .slice lo n cm/\Dls w lo n cm X P:=by
 obtain⟨lo,cm,A,pl,C,pc,e,h1,h2⟩:=els_dst h.els;exact⟨lo,cm,e,A,pl,C,pc,h1,h2⟩
theorem dls_row{w w':World}{g:Nat}{t:TypeId}(h:CRow w g t [.slice none 0 0, .slice none 0 0]){lo:Option Addr}{n cm:Nat}{X:Nat->Nat->Int}{P:Nat->Nat->Nat->Int}(hL:Dls w lo n cm X P)(k:Ld.But (· =g) w w'):Dls w' lo n cm X P:=by
 obtain⟨A,pl,C,pc,h1,h2⟩:=hL.ex;refine⟨A,pl,C,pc,⟨h1.le,h1.cap,fun j hj=> ?_⟩,fun j hj=>⟨Ud.sl_keep h (fun z q=>by simp at q) (h2 j hj).1 om0 k,Ud.grid_keep h (fun z q=>by simp at q) (fun q c e=>by simp at e) (h2 j hj).2 om0 k⟩⟩;obtain⟨x,hx,c0,c1⟩:=h1.at' j hj;exact⟨x,hx,k.cell c0 (fun e=>by have:=Ud.in_row h c0 e;simp at this),k.cell c1 (fun e=>by have:=Ud.in_row h c1 e;simp at this)⟩
theorem sl_row{w w':World}{g:Nat}{t:TypeId}(h:CRow w g t [.slice none 0 0, .slice none 0 0]){ao:Option Addr}{n ca:Nat}{z:Nat->Int}(s:Sl w ao n ca z)(k:Ld.But (· =g) w w'):Sl w' ao n ca z:=by
 by_cases e:n=0
 · subst e;exact⟨s.le,s.cap,fun j hj=>by omega⟩
 · exact Ud.sl_keep h (fun z q=>by simp at q) s om0 k
end Im
theorem imaFa1{p:Prop}(h:p:=by
 go_wp2_with (first
  |((with_reducible show wpList _ _ _ _ _ _);refine Ud.storeC isIm _ _ (by with_reducible rfl) _ _ [.slice none 0 0, .slice none 0 0] rl0 rl0 (by with_reducible exact r1) rfl rfl (one2s _ _ _ _ _ _) rfl ?_)
  |fail)
 exact bodyPost_ret (results_3 isIm Tryz.results11 _ _ (w.heap.size+1+1) [.slice none 0 0, .slice none 0 0] rfl rR rfl) rfl ⟨rfl,bR⟩):p:=h
theorem dahead17_no(mo ro lo ho:Option Addr)(n mc q rc l cm m hc:Nat)(fl d:Int)(b:Bool)(w:World)
 (hF: ∀ W,Below w.heap.size w W->Calls Tryz.prog 38 #[.agg #[.slice mo n mc, .slice ro q rc, .int .i64 fl], .agg #[.slice lo l cm, .slice ho m hc]] W fun e w'=>e= .returned (.bool b)/\Below W.heap.size W w')
 (h: ¬(b=true/\Mo.MayT d)):
 Calls Tryz.prog 11 #[.agg #[.slice mo n mc, .slice ro q rc, .int .i64 fl], .agg #[.slice lo l cm, .slice ho m hc], .int .i64 d] w fun e w'=>e= .returned (.tuple #[.agg #[.slice none 0 0, .slice none 0 0], .bool false, .int .i64 1])/\Below w.heap.size w w':=by
 have m0:=((crow_new w 25 [.slice mo n mc, .slice ro q rc, .int .i64 fl]).alloc (.cells [.slice lo l cm, .slice ho m hc].toArray 29)).alloc (.cells [.slice none 0 0, .slice none 0 0].toArray 29);have m1:=(crow_new1 w (.cells [.slice mo n mc, .slice ro q rc, .int .i64 fl].toArray 25) 29 [.slice lo l cm, .slice ho m hc]).alloc (.cells [.slice none 0 0, .slice none 0 0].toArray 29);have m2:=crow_new2 w (.cells [.slice mo n mc, .slice ro q rc, .int .i64 fl].toArray 25) (.cells [.slice lo l cm, .slice ho m hc].toArray 29) 29 [.slice none 0 0, .slice none 0 0];have B0:Below w.heap.size w (((w.alloc (.cells [.slice mo n mc, .slice ro q rc, .int .i64 fl].toArray 25)).alloc (.cells [.slice lo l cm, .slice ho m hc].toArray 29)).alloc (.cells [.slice none 0 0, .slice none 0 0].toArray 29)):=below_al (below_al (below_al (Below.refl _ _) _) _) _;obtain⟨W,hW⟩: ∃ W,W=((w.alloc (.cells [.slice mo n mc, .slice ro q rc, .int .i64 fl].toArray 25)).alloc (.cells [.slice lo l cm, .slice ho m hc].toArray 29)).alloc (.cells [.slice none 0 0, .slice none 0 0].toArray 29):=⟨_,rfl⟩;rw [← hW] at m0 m1 m2 B0;have HW:=hidC hW;have H0:=hidC m0;have H1:=hidC m1;have H2:=hidC m2;have HB0:=hidC B0;have D1:=hidC (hF W B0);have D2:=hidC (fun W=>dtime_any d W);have HN:=hidC h;clear hW m0 m1 m2 B0 hF h;go_enter Tryz.func11,Tryz.ntmps11
 go_wp2_with (first
  |(rw [← HW.out])
  |((with_reducible show wpList _ _ _ _ _ _);refine Ud.loadC isCf _ (by with_reducible rfl) w.heap.size _ rl0 H0.out rfl (by kernel_rfl) ?_)
  |((with_reducible show wpList _ _ _ _ _ _);refine Ud.loadC isIm _ (by with_reducible rfl) (w.heap.size+1) _ rl0 H1.out rfl (by kernel_rfl) ?_)
  |fail)
 refine(D1.out).mono ?_;rintro e w1 ⟨rfl,k1⟩;cases b
 ·have r1:=CRow.keep H2.out k1;have B1:=below_tr HB0.out k1;have rR:=CRow.row r1 [.slice none 0 0, .slice none 0 0];have bR:=St.below_row B1 (g:=w.heap.size+1+1) om0 [.slice none 0 0, .slice none 0 0].toArray;clear D1 D2 HN k1;exact imaFa1
 ·have hT:decide (1<=d/\d<=67108864)=false:=decide_eq_false fun q=>HN.out ⟨rfl,q⟩;rw [hT] at D2;have K1:=hidC k1;clear k1 hT D1;go_wp2_with fail
  refine(D2.out _).mono ?_;rintro e w2 ⟨rfl,k2⟩;have k12:=below_tr K1.out k2;have r1:=CRow.keep H2.out k12;have B1:=below_tr HB0.out k12;have rR:=CRow.row r1 [.slice none 0 0, .slice none 0 0];have bR:=St.below_row B1 (g:=w.heap.size+1+1) om0 [.slice none 0 0, .slice none 0 0].toArray;clear D2 HN k2 k12;exact imaFa1
theorem dahead17_yes(mo ro lo ho:Option Addr)(n mc q rc cm hc:Nat)(fl d:Int)(K V N:Nat->Int)(JX:Nat->Nat->Int)(JP SF NF:Nat->Nat->Nat->Int)(z:Nat->Int)(Y:Nat->Nat->Int)(Q:Nat->Nat->Nat->Int)(G:Nat->Bool)(oa:Bool)(w:World)(hm:Dmt w mo n mc K V N)
 (hF: ∀ W,Below w.heap.size w W->Calls Tryz.prog 38 #[.agg #[.slice mo n mc, .slice ro q rc, .int .i64 fl], .agg #[.slice lo n cm, .slice ho n hc]] W fun e w'=>e= .returned (.bool true)/\Below W.heap.size W w')
 (hT:Mo.MayT d) (hn:n<=4)
 (hA: ∀ W,Below w.heap.size w W->Calls Tryz.prog 40 #[.slice lo n cm, .slice ho n hc, .slice ro q rc] W fun e w'=> ∃ vo vm no nc,e= .returned (.tuple #[.slice vo n vm, .slice no n nc, .bool oa, .int .i64 0])/\Dls w' vo n vm JX JP/\Sl w' no n nc z/\Below W.heap.size W w')
 (hS: ∀ k,k<n-> ∀ W,Calls Tryz.prog 43 #[.agg #[.int .i64 (K k), .int .i64 (V k), .int .i64 (N k)], .int .i64 d] W fun e w'=> ∃ so sc,e= .returned (.slice so 6 sc)/\Grid w' so 6 sc 6 (SF k)/\Below W.heap.size W w')
 (hN: ∀ k,k<n-> ∀ W,Calls Tryz.prog 41 #[.agg #[.int .i64 (K k), .int .i64 (V k), .int .i64 (N k)], .int .i64 d] W fun e w'=> ∃ so sc,e= .returned (.tuple #[.slice so 6 sc, .bool false])/\Grid w' so 6 sc 6 (NF k)/\Below W.heap.size W w')
 (hX: ∀ k,k<n-> ∀ W xo xc po pc so sc qo qc,Sl W xo 6 xc (JX k)->Grid W po 6 pc 6 (JP k)->Grid W so 6 sc 6 (SF k)->Grid W qo 6 qc 6 (NF k)->
  Calls Tryz.prog 42 #[.agg #[.slice xo 6 xc, .slice po 6 pc], .slice so 6 sc, .slice qo 6 qc] W fun e w'=> ∃ yo yc ro rc,e= .returned (.tuple #[.agg #[.slice yo 6 yc, .slice ro 6 rc], .bool (G k)])/\Below W.heap.size W w'/\El.Free W.heap.size w' (fun U=>Sl U yo 6 yc (Y k)/\Grid U ro 6 rc 6 (Q k))):
 Calls Tryz.prog 11 #[.agg #[.slice mo n mc, .slice ro q rc, .int .i64 fl], .agg #[.slice lo n cm, .slice ho n hc], .int .i64 d] w fun e w'=> ∃ vo vm no nc,e= .returned (.tuple #[.agg #[.slice vo n vm, .slice no n nc], .bool (oa||anyb G n), .int .i64 0])/\Dls w' vo n vm Y Q/\Sl w' no n nc z/\Below w.heap.size w w':=by
 have m0:=((crow_new w 25 [.slice mo n mc, .slice ro q rc, .int .i64 fl]).alloc (.cells [.slice lo n cm, .slice ho n hc].toArray 29)).alloc (.cells [.slice none 0 0, .slice none 0 0].toArray 29);have m1:=(crow_new1 w (.cells [.slice mo n mc, .slice ro q rc, .int .i64 fl].toArray 25) 29 [.slice lo n cm, .slice ho n hc]).alloc (.cells [.slice none 0 0, .slice none 0 0].toArray 29);have m2:=crow_new2 w (.cells [.slice mo n mc, .slice ro q rc, .int .i64 fl].toArray 25) (.cells [.slice lo n cm, .slice ho n hc].toArray 29) 29 [.slice none 0 0, .slice none 0 0];have B0:Below w.heap.size w (((w.alloc (.cells [.slice mo n mc, .slice ro q rc, .int .i64 fl].toArray 25)).alloc (.cells [.slice lo n cm, .slice ho n hc].toArray 29)).alloc (.cells [.slice none 0 0, .slice none 0 0].toArray 29)):=below_al (below_al (below_al (Below.refl _ _) _) _) _;obtain⟨W,hW⟩: ∃ W,W=((w.alloc (.cells [.slice mo n mc, .slice ro q rc, .int .i64 fl].toArray 25)).alloc (.cells [.slice lo n cm, .slice ho n hc].toArray 29)).alloc (.cells [.slice none 0 0, .slice none 0 0].toArray 29):=⟨_,rfl⟩;rw [← hW] at m0 m1 m2 B0;have HW:=hidC hW;have H0:=hidC m0;have H1:=hidC m1;have H2:=hidC m2;have HB0:=hidC B0;have D1:=hidC (hF W B0);have D2:=hidC (fun W=>dtime_any d W);have hTd:decide (1<=d/\d<=67108864)=true:=decide_eq_true hT;rw [hTd] at D2;have HA:=hidC hA;have HSt:=hidC hS;have HNo:=hidC hN;have HNx:=hidC hX;obtain⟨y,hmo,hmc⟩:=hm.get;have HMO:=hidC hmo;have HMC:=hidC hmc;have l1:=hm.le;have l2:=hm.cap;have HAny:Hid (∀ k,anyb G (k+1)=(anyb G k||G k)):=fun _=>rfl;clear hW m0 m1 m2 B0 hF hTd hA hS hN hX hm hmo hmc;go_enter Tryz.func11,Tryz.ntmps11
 go_wp2_with (first
  |(rw [← HW.out])
  |((with_reducible show wpList _ _ _ _ _ _);refine Ud.loadC isCf _ (by with_reducible rfl) w.heap.size _ rl0 H0.out rfl (by kernel_rfl) ?_)
  |((with_reducible show wpList _ _ _ _ _ _);refine Ud.loadC isIm _ (by with_reducible rfl) (w.heap.size+1) _ rl0 H1.out rfl (by kernel_rfl) ?_)
  |fail)
 refine(D1.out).mono ?_;rintro e w1 ⟨rfl,k1⟩;have K1:=hidC k1;clear k1 D1;go_wp2_with fail
 refine(D2.out _).mono ?_;rintro e w2 ⟨rfl,k2⟩;have K2:=hidC (below_tr K1.out k2);have c0:w2.cell? ⟨w.heap.size+1,0,none⟩=some (.slice lo n cm):=CRow.cell (CRow.keep H1.out K2.out) (k:=0) rfl rfl;have c1:w2.cell? ⟨w.heap.size+1,1,none⟩=some (.slice ho n hc):=CRow.cell (CRow.keep H1.out K2.out) (k:=1) rfl rfl;have c2:w2.cell? ⟨w.heap.size,1,none⟩=some (.slice ro q rc):=CRow.cell (CRow.keep H0.out K2.out) (k:=1) rfl rfl;have D3:=hidC (HA.out w2 (below_tr HB0.out K2.out));clear k2 D2 HA HW K1;go_wp2_with fail
 refine(D3.out).mono ?_;rintro e w3 ⟨vo,vm,no,nc,rfl,hD,hz,k3⟩;have K3:=hidC (below_tr K2.out k3);obtain⟨A',pl',C',pc',hd,hE⟩:=hD.ex;have l3:=hd.le;have l4:=hd.cap;obtain⟨x,hvo,hdc⟩:=hd.get;have HVO:=hidC hvo;have HDC:=hidC hdc;have HE':=hidC hE;have HZ:=hidC hz;clear k3 D3 hD hd hvo hdc hE hz c0 c1 c2 K2
 go_wp2_with (first
  |((with_reducible show wpList _ _ _ _ _ _);refine St.wpList_storeNew isIm rfl _ _ rl0 _ [.slice none 0 0, .slice none 0 0] [.slice none 0 0, .slice no n nc] rl0 rl0 rfl rfl (one2s _ _ _ _ _ _) ?_;intro w6 n6 k6)
  |fail)
 have l6:=CRow.lt n6;obtain⟨gs,hgs⟩: ∃ g,g=w3.heap.size:=⟨_,rfl⟩;rw [← hgs] at n6 l6 ⊢;obtain⟨o2,ho2⟩: ∃ o,o=w6.heap.size:=⟨_,rfl⟩;rw [← ho2] at l6;have z6:El.Lsn 60 2 o2 w6 (.slice none 0 0) 0 (StR Y Q) (.slice none 0 0) 0 (fun _=>0):=El.Lsn.nil om0 _ _ _ _;have HE:Hid (∀ V,Ld.But (fun q=>q=gs\/o2<=q) w6 V->Below w3.heap.size w3 V):=fun V k=>k.below k6 (by have:=k6.size;omega) (by rintro q (e|e)<;>omega)
 have HGW:w.heap.size+1+1<gs:=by have:=K3.out.size;have:=CRow.lt H2.out;omega
 clear k6 hgs ho2;go_loopw [11,14] (fun an i ws=> ∃ (k:Nat) (vX:Value),k<=n/\i= .int .i64 (k:Int)/\an= .bool (oa||anyb G k)/\CRow ws gs 29 [vX, .slice no n nc]/\El.Lsn 60 2 o2 ws vX k (StR Y Q) (.slice none 0 0) 0 (fun _=>0)/\Ld.But (fun q=>q=gs\/o2<=q) w6 ws) (fun _ i _=>n- (intOf i).toNat)
 case atStart=>exact⟨0,_,om0,rfl,by rw [show anyb G 0=false from rfl,Bool.or_false],n6,z6,Ld.But.refl _ _⟩
 case round=>
  rename World=>ws;obtain⟨k,vX,hk,rfl,rfl,nl,zl,bl⟩:=hrel;by_cases hkn:k<n
  ·have E1:=HE.out _ bl;have KL:=below_tr HB0.out (below_tr K3.out E1);have d0:ws.cell? ⟨w.heap.size,0,none⟩=some (.slice mo n mc):=CRow.cell (CRow.keep H0.out (below_tr K3.out E1)) (k:=0) rfl rfl;obtain rfl:=HMO.out om0;obtain rfl:=HVO.out om0;obtain⟨a0,a1,a2⟩:=HMC.out k hkn;have a0:=keep_cell KL a0;have a1:=keep_cell KL a1;have a2:=keep_cell KL a2;obtain⟨u0,u1⟩:=HDC.out k hkn;have u0:=keep_cell E1 u0;have u1:=keep_cell E1 u1;have sX:=(HE'.out k hkn).1.keep E1;have gP:=(HE'.out k hkn).2.keep E1;have kn:(k:Int)<n:=om0;have S1:=hidC (HSt.out k hkn);have N1:=hidC (HNo.out k hkn);have X1:=hidC (HNx.out k hkn);have A1:=hidC (HAny.out k);obtain⟨Kk,hKk⟩: ∃ z,z=K k:=⟨_,rfl⟩;obtain⟨Vk,hVk⟩: ∃ z,z=V k:=⟨_,rfl⟩;obtain⟨Nk,hNk⟩: ∃ z,z=N k:=⟨_,rfl⟩;rw [← hKk,← hVk,← hNk] at S1 N1;rw [← hKk] at a0;rw [← hVk] at a1;rw [← hNk] at a2;obtain⟨au,hau⟩: ∃ z,z=A' k:=⟨_,rfl⟩;obtain⟨cu,hcu⟩: ∃ z,z=C' k:=⟨_,rfl⟩;obtain⟨av,hav⟩: ∃ z,z=pl' k:=⟨_,rfl⟩;obtain⟨cv,hcv⟩: ∃ z,z=pc' k:=⟨_,rfl⟩;rw [← hau,← hcu] at u0 sX;rw [← hav,← hcv] at u1 gP;obtain⟨gk,hgk⟩: ∃ z,z=G k:=⟨_,rfl⟩;rw [← hgk] at X1 A1;have Z0:=hidC zl;have NL:=hidC nl;have BL:=hidC bl;have SX:=hidC sX;have GP:=hidC gP;have AM:=hidC (⟨a0,a1,a2⟩:ws.cell? (y.add (k*3))=some (.int .i64 Kk)/\ws.cell? ((y.add (k*3)).add 1)=some (.int .i64 Vk)/\ws.cell? ((y.add (k*3)).add 2)=some (.int .i64 Nk));have U0:=hidC (⟨u0,u1⟩:ws.cell? (x.add (k*2))=some (.slice au 6 cu)/\ws.cell? ((x.add (k*2)).add 1)=some (.slice av 6 cv));have D0:=hidC d0;clear hKk hVk hNk hau hcu hav hcv hgk zl nl bl sX gP a0 a1 a2 u0 u1 E1 KL
   go_wp2_with (first
    |(refine wpList_loadV rfl 97 _ rl0 (y.add (k*3)) (.agg #[.int .i64 Kk, .int .i64 Vk, .int .i64 Nk]) rl0 (run_loadM _ _ _ _ _ AM.out.1 AM.out.2.1 AM.out.2.2) ?_)
    |fail)
   refine(N1.out _).mono ?_;rintro e w7 ⟨qo,qc,rfl,g7,k7⟩;have K7:=hidC k7
   have hS7: ∀ U,Below w7.heap.size w7 U->(U.cell? (x.add (k*2))=some (.slice au 6 cu)/\U.cell? ((x.add (k*2)).add 1)=some (.slice av 6 cv)/\U.cell? ⟨w.heap.size,0,none⟩=some (.slice (some y) n mc)/\U.cell? (y.add (k*3))=some (.int .i64 Kk)/\U.cell? ((y.add (k*3)).add 1)=some (.int .i64 Vk)/\U.cell? ((y.add (k*3)).add 2)=some (.int .i64 Nk)):=fun U k=>by
    have kk:=below_tr K7.out k;exact⟨keep_cell kk U0.out.1,keep_cell kk U0.out.2,keep_cell kk D0.out,keep_cell kk AM.out.1,keep_cell kk AM.out.2.1,keep_cell kk AM.out.2.2⟩
   have HS:=hidC hS7;have X7:Hid (∀ U so sc,Below w7.heap.size w7 U->Grid U so 6 sc 6 (SF k)->Calls Tryz.prog 42 #[.agg #[.slice au 6 cu, .slice av 6 cv], .slice so 6 sc, .slice qo 6 qc] U fun e w'=> ∃ yo yc ro rc,e= .returned (.tuple #[.agg #[.slice yo 6 yc, .slice ro 6 rc], .bool gk])/\Below U.heap.size U w'/\El.Free U.heap.size w' (fun U=>Sl U yo 6 yc (Y k)/\Grid U ro 6 rc 6 (Q k))):=fun U so sc b hg=>X1.out U au cu av cv so sc qo qc (SX.out.keep (below_tr K7.out b)) (GP.out.keep (below_tr K7.out b)) hg (g7.keep b);have HB7:=hidC hk;clear hS7 d0 g7 k7 X1 N1;go_upto_region 11 with fail
   go_cut [17,18] (fun p o wx=> ∃ (g:Nat) (yo:Option Addr) (yc:Nat) (po:Option Addr) (pm:Nat),p= .pointer (some ⟨g,0,none⟩)/\o= .bool gk/\CRow wx g 60 [.slice yo 6 yc, .slice po 6 pm]/\El.Free w7.heap.size wx (fun U=>Sl U yo 6 yc (Y k)/\Grid U po 6 pm 6 (Q k))/\Below w7.heap.size w7 wx/\w7.heap.size<=g)
   case first=>
    refine Ru.wp_region_U [] (fun w'=>w'.cell? (x.add (k*2))=some (.slice au 6 cu)/\w'.cell? ((x.add (k*2)).add 1)=some (.slice av 6 cv)/\w'.cell? ⟨w.heap.size,0,none⟩=some (.slice (some y) n mc)/\w'.cell? (y.add (k*3))=some (.int .i64 Kk)/\w'.cell? ((y.add (k*3)).add 1)=some (.int .i64 Vk)/\w'.cell? ((y.add (k*3)).add 2)=some (.int .i64 Nk)) (by kernel_rfl) (HS.out _ ((Vc.below_drew' _))) (fun hHeld=> ?_);refine Ru.tk6 0 (.slice (some x) n vm) hHeld ?_;refine Ru.tk6 1 (.int .i64 (k:Int)) hHeld ?_;refine Ru.tk6 2 (.pointer (some (x.add (k*2)))) hHeld ?_;refine Ru.tk 3 (.agg #[.slice au 6 cu, .slice av 6 cv]) rfl (yieldsD (by kernel_rfl) _ rl0 (x.add (k*2)) _ _ rl0 (fun w h=>⟨h.1,h.2.1⟩)) hHeld ?_;refine Ru.tk6 4 (.pointer (some ⟨w.heap.size,0,none⟩)) hHeld ?_;refine Ru.tk6 5 (.slice (some y) n mc) hHeld ?_;refine Ru.tk6 6 (.int .i64 (k:Int)) hHeld ?_;refine Ru.tk6 7 (.pointer (some (y.add (k*3)))) hHeld ?_;refine Ru.tk 8 (.agg #[.int .i64 Kk, .int .i64 Vk, .int .i64 Nk]) rfl (yieldsM (by kernel_rfl) _ rl0 (y.add (k*3)) _ _ _ rl0 (fun w h=>h.2.2.2)) hHeld ?_;refine Ru.tk6 9 (.int .i64 d) hHeld ?_;refine Ru.tk6 11 (.slice qo 6 qc) hHeld ?_;have d_0:w7.drew.heap.size=w7.heap.size:=rfl;refine Ru.rs [10,16] ?_;refine Ru.co (fun K hK=> ?_) ?_
    ·go_simp;refine(S1.out _).mono ?_;rintro e v_1 ⟨so_1,sc_1,rfl,gs_1,k_1⟩;have D_1:=below_tr (Vc.below_drew' w7) k_1;have s_1:=k_1.size;go_wp2_with fail
     refine Ru.hd hK (HS.out _ (D_1)) (fun hHeld=> ?_);clear hK K;refine Ru.rs [12,16] ?_;refine Ru.co (fun K hK=> ?_) ?_
     ·go_simp;refine(X7.out _ _ _ D_1 gs_1).mono ?_;rintro e v_2 ⟨yo_2,yc_2,ro_2,rc_2,rfl,k_2,fr_2⟩;have D_2:=below_tr D_1 k_2;have s_2:=k_2.size;go_wp2_with fail
      refine Ru.hd hK (HS.out _ (D_2)) (fun hHeld=> ?_);clear hK K;refine Ru.tk6 13 (.tuple #[.agg #[.slice yo_2 6 yc_2, .slice ro_2 6 rc_2], .bool gk]) hHeld ?_;refine Ru.tk6 14 (.agg #[.slice yo_2 6 yc_2, .slice ro_2 6 rc_2]) hHeld ?_;refine Ru.tk6 15 (.bool gk) hHeld ?_;refine Ru.rd 16 (fun K hK=> ?_);go_simp;have n_3:CRow (v_2.alloc (.cells [.slice none 0 0, .slice none 0 0].toArray 60)) (v_2.heap.size) 60 [.slice none 0 0, .slice none 0 0]:=crow_new v_2 60 [.slice none 0 0, .slice none 0 0];have a_3:=below_al (Below.refl _ v_2) (.cells [.slice none 0 0, .slice none 0 0].toArray 60);have g_3:=D_2.size;have e_3:(v_2.alloc (.cells [.slice none 0 0, .slice none 0 0].toArray 60)).heap.size=v_2.heap.size+1:=by simp
      have D_3:=below_tr D_2 a_3;have fr_3:=fr_2.keep a_3;refine Ru.hd hK (HS.out _ (D_3)) (fun hHeld=> ?_);clear hK K;refine Ru.rd 17 (fun K hK=> ?_);refine Ru.stepC Pr.isRs (by kernel_rfl) _ _ rl0 (v_2.heap.size) _ ([.slice yo_2 6 yc_2, .slice ro_2 6 rc_2]) rl0 rl0 n_3 rfl rfl (one2s _ _ _ _ _ _) ?_;have nE:=CRow.row n_3 ([.slice yo_2 6 yc_2, .slice ro_2 6 rc_2]);have bE:=St.below_row D_3 (g:=v_2.heap.size) om0 ([.slice yo_2 6 yc_2, .slice ro_2 6 rc_2]).toArray;have kB:=St.below_row a_3 (g:=v_2.heap.size) (Nat.le_refl _) ([.slice yo_2 6 yc_2, .slice ro_2 6 rc_2]).toArray;refine Ru.hd hK (HS.out _ (bE)) (fun hHeld=> ?_);clear hK K;refine Ru.tk6 18 (.bool gk) hHeld ?_;refine Ru.wpAnyU_done (by kernel_rfl) ?_;go_wp2_with fail
      go_meet;exact⟨_,_,_,_,_,rfl,rfl,nE,((fr_2).keep kB).less om0,bE,om0⟩
     refine Ru.co1 (fun K hK=> ?_);go_simp;have n_4:CRow (v_1.alloc (.cells [.slice none 0 0, .slice none 0 0].toArray 60)) (v_1.heap.size) 60 [.slice none 0 0, .slice none 0 0]:=crow_new v_1 60 [.slice none 0 0, .slice none 0 0];have a_4:=below_al (Below.refl _ v_1) (.cells [.slice none 0 0, .slice none 0 0].toArray 60);have g_4:=D_1.size;have e_4:(v_1.alloc (.cells [.slice none 0 0, .slice none 0 0].toArray 60)).heap.size=v_1.heap.size+1:=by simp
     have D_4:=below_tr D_1 a_4;have gs_4:=gs_1.keep a_4;refine Ru.hd hK (HS.out _ (D_4)) (fun hHeld=> ?_);clear hK K;refine Ru.rd 12 (fun K hK=> ?_);go_simp;refine(X7.out _ _ _ D_4 gs_4).mono ?_;rintro e v_5 ⟨yo_5,yc_5,ro_5,rc_5,rfl,k_5,fr_5⟩;have D_5:=below_tr D_4 k_5;have s_5:=k_5.size;have n_5:=CRow.keep n_4 k_5;go_wp2_with fail
     refine Ru.hd hK (HS.out _ (D_5)) (fun hHeld=> ?_);clear hK K;refine Ru.tk6 13 (.tuple #[.agg #[.slice yo_5 6 yc_5, .slice ro_5 6 rc_5], .bool gk]) hHeld ?_;refine Ru.tk6 14 (.agg #[.slice yo_5 6 yc_5, .slice ro_5 6 rc_5]) hHeld ?_;refine Ru.tk6 15 (.bool gk) hHeld ?_;refine Ru.rd 17 (fun K hK=> ?_);refine Ru.stepC Pr.isRs (by kernel_rfl) _ _ rl0 (v_1.heap.size) _ ([.slice yo_5 6 yc_5, .slice ro_5 6 rc_5]) rl0 rl0 n_5 rfl rfl (one2s _ _ _ _ _ _) ?_;have nE:=CRow.row n_5 ([.slice yo_5 6 yc_5, .slice ro_5 6 rc_5]);have bE:=St.below_row D_5 (g:=v_1.heap.size) om0 ([.slice yo_5 6 yc_5, .slice ro_5 6 rc_5]).toArray;refine Ru.hd hK (HS.out _ (bE)) (fun hHeld=> ?_);clear hK K;refine Ru.tk6 18 (.bool gk) hHeld ?_;refine Ru.wpAnyU_done (by kernel_rfl) ?_;go_wp2_with fail
     go_meet;exact⟨_,_,_,_,_,rfl,rfl,nE,((fr_5).row (g:=v_1.heap.size) om0 ([.slice yo_5 6 yc_5, .slice ro_5 6 rc_5]).toArray).less om0,bE,om0⟩
    refine Ru.co1 (fun K hK=> ?_);go_simp;have n_6:CRow (w7.drew.alloc (.cells [.slice none 0 0, .slice none 0 0].toArray 60)) (w7.heap.size) 60 [.slice none 0 0, .slice none 0 0]:=crow_new w7.drew 60 [.slice none 0 0, .slice none 0 0];have a_6:=below_al (Below.refl _ w7.drew) (.cells [.slice none 0 0, .slice none 0 0].toArray 60);have g_6:=(Vc.below_drew' w7).size;have e_6:(w7.drew.alloc (.cells [.slice none 0 0, .slice none 0 0].toArray 60)).heap.size=w7.heap.size+1:=by simp
    have q_6:(w7.alloc (.cells [.slice none 0 0, .slice none 0 0].toArray 60)).drew.heap.size=w7.heap.size+1:=by simp
    have D_6:=below_tr (Vc.below_drew' w7) a_6;refine Ru.hd hK (HS.out _ (D_6)) (fun hHeld=> ?_);clear hK K;refine Ru.rd 10 (fun K hK=> ?_);go_simp;refine(S1.out _).mono ?_;rintro e v_7 ⟨so_7,sc_7,rfl,gs_7,k_7⟩;have D_7:=below_tr D_6 k_7;have s_7:=k_7.size;have n_7:=CRow.keep n_6 k_7;go_wp2_with fail
    refine Ru.hd hK (HS.out _ (D_7)) (fun hHeld=> ?_);clear hK K;refine Ru.rd 12 (fun K hK=> ?_);go_simp;refine(X7.out _ _ _ D_7 gs_7).mono ?_;rintro e v_8 ⟨yo_8,yc_8,ro_8,rc_8,rfl,k_8,fr_8⟩;have D_8:=below_tr D_7 k_8;have s_8:=k_8.size;have n_8:=CRow.keep n_7 k_8;go_wp2_with fail
    refine Ru.hd hK (HS.out _ (D_8)) (fun hHeld=> ?_);clear hK K;refine Ru.tk6 13 (.tuple #[.agg #[.slice yo_8 6 yc_8, .slice ro_8 6 rc_8], .bool gk]) hHeld ?_;refine Ru.tk6 14 (.agg #[.slice yo_8 6 yc_8, .slice ro_8 6 rc_8]) hHeld ?_;refine Ru.tk6 15 (.bool gk) hHeld ?_;refine Ru.rd 17 (fun K hK=> ?_);refine Ru.stepC Pr.isRs (by kernel_rfl) _ _ rl0 (w7.heap.size) _ ([.slice yo_8 6 yc_8, .slice ro_8 6 rc_8]) rl0 rl0 n_8 rfl rfl (one2s _ _ _ _ _ _) ?_;have nE:=CRow.row n_8 ([.slice yo_8 6 yc_8, .slice ro_8 6 rc_8]);have bE:=St.below_row D_8 (g:=w7.heap.size) om0 ([.slice yo_8 6 yc_8, .slice ro_8 6 rc_8]).toArray;refine Ru.hd hK (HS.out _ (bE)) (fun hHeld=> ?_);clear hK K;refine Ru.tk6 18 (.bool gk) hHeld ?_;refine Ru.wpAnyU_done (by kernel_rfl) ?_;go_wp2_with fail
    go_meet;exact⟨_,_,_,_,_,rfl,rfl,nE,((fr_8).row (g:=w7.heap.size) om0 ([.slice yo_8 6 yc_8, .slice ro_8 6 rc_8]).toArray).less om0,bE,om0⟩
   rename World=>w8;obtain⟨g8,yo,yc,po,pm,rfl,rfl,n8,f8,k8,hg8⟩:=hcut;have K8:=below_tr K7.out k8;have z8:=Z0.out.keep K8;have nl8:=CRow.keep NL.out K8;have b8:=BL.out.then K8;have c8:w8.cell? ⟨gs,0,none⟩=some vX:=CRow.cell nl8 (k:=0) rfl rfl;have lw7:=K7.out.size;have HR:Hid (∀ U,El.Rest (El.offs o2 vX (.slice none 0 0)) w8 U->StR Y Q k [.slice yo 6 yc, .slice po 6 pm] U):=fun U r=>⟨_,_,_,_,rfl,Z0.out.free (f8.less lw7) r⟩;have N8:=hidC n8;clear HS X7 K7 S1 Z0 NL BL n8 f8 k8
   go_wp2_with (first
    |((with_reducible show wpList _ _ _ _ _ _);refine Ud.loadC Pr.isRs _ (by with_reducible rfl) g8 _ rl0 N8.out rfl (by kernel_rfl) ?_)
    |(at_builtin;refine El.pushV rl0 _ _ 26 60 2 48 (.agg #[.slice none 0 0, .slice none 0 0]) rl0 Tryz.underlying26 infoS2 rfl (by decide) (by decide) o2 vX _ k 0 _ _ rl0 z8 om0 [.slice yo 6 yc, .slice po 6 pm] rfl (one2s _ _ _ _ _ _) HR.out rl0 ?_)
    |fail)
   intro v' w9 z9 b9;obtain⟨lo',cm',hv',_⟩:=z9.form;subst hv';have n9:=Ld.crowBut nl8 b9 om0;have c9:w9.cell? ⟨gs,0,none⟩=some vX:=CRow.cell n9 (k:=0) rfl rfl;have f9:=CRow.free n9 0;have n10:=CRow.set n9 0 (.slice lo' (k+1) cm');have b10:=(b8.trans (b9.mono fun q e=>Or.inr e)).set (p:=⟨gs,0,none⟩) (.slice lo' (k+1) cm') (Or.inl rfl);have z10:=z9.put (g:=gs) l6 ((Ld.But.refl (· =gs) w9).set (p:=⟨gs,0,none⟩) (.slice lo' (k+1) cm') rfl);clear z8 nl8 b8 c8 z9 b9 n9 HR N8;obtain⟨qn,hqn⟩: ∃ q,q=(oa||anyb G k):=⟨_,rfl⟩;have A2:Hid ((oa||anyb G (k+1))=(qn||gk)):=by show _=_;rw [A1.out,hqn,Bool.or_assoc]
   rw [← hqn];clear hqn A1;cases qn
   all_goals go_wp2
   all_goals go_roundw
   all_goals first
    |(simp [intOf];omega)
    |exact⟨k+1,_,om0,by go_num,by rw [A2.out];first|rfl|simp,n10,z10,b10⟩
  ·obtain rfl:n=k:=om0;have E1:=HE.out _ bl;have KW:=below_tr K3.out E1;obtain⟨lo',cm',rfl,hL⟩:=lsn_dls zl;have r1:=CRow.keep H2.out KW;have rR:=CRow.row r1 [.slice lo' n cm', .slice no n nc];have BR:=below_tr HB0.out KW;have bR:=St.below_row BR (g:=w.heap.size+1+1) om0 [.slice lo' n cm', .slice no n nc].toArray;have hzR:=HZ.out.keep E1;have hRS:=Ud.but_row ws (w.heap.size+1+1) ([.slice lo' n cm', .slice no n nc]:List Value).toArray;have LR:=hidC (dls_row r1 hL hRS);have ZR:=hidC (sl_row r1 hzR hRS);have NL:=hidC nl;clear hL zl bl E1 KW hzR hRS nl
   go_wp2_with (first
    |((with_reducible show wpList _ _ _ _ _ _);refine Ud.loadC isIm _ (by with_reducible rfl) gs _ rl0 NL.out rfl (by kernel_rfl) ?_)
    |((with_reducible show wpList _ _ _ _ _ _);refine Ud.storeC isIm _ _ (by with_reducible rfl) _ _ [.slice lo' n cm', .slice no n nc] rl0 rl0 (by with_reducible exact r1) rfl rfl (one2s _ _ _ _ _ _) rfl ?_)
    |fail)
   exact bodyPost_ret (results_3 isIm Tryz.results11 _ _ (w.heap.size+1+1) _ rfl rR rfl) rfl ⟨_,_,_,_,rfl,LR.out,ZR.out,bR⟩
end
section
open Go.RowKit Vc St Mt Cn Mx Im El
attribute [local go_sem ↓] Go.wp_at_zero Go.wp_at_succ
namespace Im
end Im
end
end Go.Proofs.YtcefcokpjbebhaaGreatDoor
