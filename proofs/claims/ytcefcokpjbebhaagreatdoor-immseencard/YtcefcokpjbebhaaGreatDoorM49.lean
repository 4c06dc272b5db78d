/-
  The document's answer of layer 17 (radomeref17): which confs and Imms may be; One.
-/
import Derived.Test.YtcefcokpjbebhaaGreatDoorM47
import Derived.Test.YtcefcokpjbebhaaGreatDoorM32
import Derived.Test.YtcefcokpjbebhaaGreatDoorMoR
set_option linter.unusedSimpArgs false
set_option linter.unusedVariables false
set_option maxHeartbeats 8000000
set_option maxRecDepth 20000
namespace Go.Proofs.YtcefcokpjbebhaaGreatDoor
section
open Go.RowKit Vc St Mt Cn Mx Im El
attribute [local go_sem ↓] Go.wp_at_zero Go.wp_at_succ
namespace Im
theorem IY:Is 25 3:=⟨by kernel_rfl,⟨_,Tryz.underlying25,rfl⟩⟩
theorem isM:Tryz.prog.underlying 97=some (.struct (Tryz.prog.fieldsOf 97)):=by kernel_rfl
theorem yJ:(Tryz.prog.info? 97).map (·.size)=some 3:=by kernel_rfl
theorem CG(w:World)(x:Addr)(u v z:Value)(h0:w.cell? x=some u)(h1:w.cell? (x.add 1)=some v)(h2:w.cell? (x.add 2)=some z):(Instr.loadAt 97 (.pointer (some x))).run Tryz.prog w= .ok (.agg #[u,v,z]) w:=by
 have hl:(loadCells x [u,v,z].length).run Tryz.prog w= .ok [u,v,z].toArray w:=run_loadCells_list (P:=Tryz.prog) w x [u,v,z] (fun j y hv=>by
  match j,hv with
  |0,hv=>rw [uk];simp at hv;subst hv;exact h0
  |1,hv=>simp at hv;subst hv;exact h1
  |2,hv=>simp at hv;subst hv;exact h2)
 have hv:(loadVar 97 x).run Tryz.prog w= .ok (.agg #[u,v,z]) w:=by
  cases hq:Tryz.prog.info? 97 with
  |none=>have:=yJ;rw [hq] at this;cases this
  |some i=>
   have hs:i.size=3:=by have:=yJ;rw [hq] at this;simpa using this
   have hagg:(isAgg 97).run Tryz.prog w= .ok true w:=by
    unfold isAgg;rw [Sem.run_bind,run_underlying isM w];simp
   simp [loadVar,Sem.run_bind,hagg,sizeOf,typeInfo,hq,hs];simp at hl;simp [hl]
 simp only [Instr.loadAt,Instr.sureAddr,Sem.run_bind,Sem.run_pure,Result.andThen_ok,hv]
theorem mJ{ops:Array Oper}{S:World->Prop}{o:Oper}{a:Act}(hw:Region.wanted o (yielded ops a.tmps)=true)(x:Operand)(ho:o.op= .load 97 x)(ad:Addr)(u v z:Value)(hx:a.eval x= .pointer (some ad))
 (hS: ∀ w,S w->w.cell? ad=some u/\w.cell? (ad.add 1)=some v/\w.cell? (ad.add 2)=some z):YieldsIf Tryz.prog ops S o (.agg #[u,v,z]) a:=
 .inl ⟨hw,fun w h=>by
  unfold execOp
  simp only [ho,hx,Sem.run_bind,CG w ad u v z (hS w h).1 (hS w h).2.1 (hS w h).2.2,Result.andThen_ok,Sem.run_pure]⟩
end Im
theorem O6(mo ro:Option Addr)(n mc q rc:Nat)(K V N:Nat->Int)(A:Nat->Option Addr)(L C:Nat->Nat)(R:Nat->Nat->Int)(fl:Int)(b:Bool)(w:World)(hm:Dmt w mo n mc K V N)(hs:Sls w ro q rc A L C)(hr: ∀ i,i<q->Sl w (A i) (L i) (C i) (R i))(bR: ∀ i,B64 (R i))
 (hb:b=true↔qw n q K V N L R fl):
 Calls Tryz.prog 13 #[.agg #[.slice mo n mc, .slice ro q rc, .int .i64 fl]] w fun e w'=>e= .returned (.bool b)/\Below w.heap.size w w':=by
 have l1:=hm.le;have l2:=hm.cap;have l3:=hs.le;have l4:=hs.cap;obtain⟨x,hmo,hmc⟩:=hm.get;obtain⟨y,hro,hrc⟩:=hs.get;have NO:=aZ (fun(q:Prop) (h1:b=true->q) (h2: ¬q)=>(by cases b<;>simp_all:b=false))
 have HB:=aZ hb;by_cases h0:1<=n/\n<=4/\q=n/\0<=fl/\fl<=67108864
 ·obtain⟨n1,n4,rfl,f0,f1⟩:=h0;have m0:=aH w 25 [.slice mo q mc, .slice ro q rc, .int .i64 fl];have B0:=af (Below.refl _ w) (.cells [.slice mo q mc, .slice ro q rc, .int .i64 fl].toArray 25);obtain⟨W,hW⟩: ∃ W,W=w.alloc (.cells [.slice mo q mc, .slice ro q rc, .int .i64 fl].toArray 25):=⟨_,rfl⟩;rw [← hW] at m0 B0;have HW:=aZ hW;have HM:=aZ m0;have HB0:=aZ B0;obtain rfl:=hmo om0;obtain rfl:=hro om0;have HMC:=aZ hmc;have HRC:=aZ hrc;have HR:=aZ hr;have c0:W.cell? ⟨w.heap.size,0,none⟩=some (.slice (some x) q mc):=ai.cell m0 (k:=0) rfl rfl;have c1:W.cell? ⟨w.heap.size,1,none⟩=some (.slice (some y) q rc):=ai.cell m0 (k:=1) rfl rfl;have c2:W.cell? ⟨w.heap.size,2,none⟩=some (.int .i64 fl):=ai.cell m0 (k:=2) rfl rfl;have i1: ¬(q:Int)<1:=om0;have i2:(q:Int)<=4:=om0;have i3: ¬4<(q:Int):=om0;have i4: ¬fl<0:=om0;have i5: ¬67108864<fl:=om0;clear hW m0 B0 hm hs hr hmc hrc hb;go_enter Tryz.func13,Tryz.ntmps13
  go_wp2_with (first|(rw [← HW.out])|fail)
  go_loopw [4] (fun i wr=> ∃ k:Nat,k<=q/\i= .int .i64 (k:Int)/\(∀ j,j<k->Mo.CV (K j) (V j) (N j)/\L j=q/\Ch q (R j) 0)/\Below W.heap.size W wr) (fun i _=>q- (intOf i).toNat)
  case atStart=>exact⟨0,om0,rfl,fun j hj=>by omega,Below.refl _ _⟩
  case round=>
   rename World=>wr;obtain⟨k,hk,rfl,hj,kb⟩:=hrel;by_cases hkn:k<q
   ·have HJ:=aZ hj;have HKB:=aZ kb;obtain⟨a0,a1,a2⟩:=HMC.out k hkn;have a0:=aZ (ah (ae HB0.out kb) a0);have a1:=aZ (ah (ae HB0.out kb) a1);have a2:=aZ (ah (ae HB0.out kb) a2);have d0:wr.cell? ⟨w.heap.size,0,none⟩=some (.slice (some x) q mc):=ah kb c0;have kn:(k:Int)<q:=om0;clear hj c0 c1 c2;by_cases hM:Mo.CV (K k) (V k) (N k)
    ·have D1:=aZ (fun W=>WU (K k) (V k) (N k) W hM);obtain⟨Kk,hKk⟩: ∃ z,z=K k:=⟨_,rfl⟩;obtain⟨Vk,hVk⟩: ∃ z,z=V k:=⟨_,rfl⟩;obtain⟨Nk,hNk⟩: ∃ z,z=N k:=⟨_,rfl⟩;rw [← hKk,← hVk,← hNk] at D1;rw [← hKk] at a0;rw [← hVk] at a1;rw [← hNk] at a2;have HMk:=aZ hM;clear hKk hVk hNk kb hM
     go_wp2_with (first
      |(refine oC rfl 97 _ rl0 (x.add (k*3)) (.agg #[.int .i64 Kk, .int .i64 Vk, .int .i64 Nk]) rl0 (CG _ _ _ _ _ a0.out a1.out a2.out) ?_)
      |fail)
     refine(D1.out _).mono ?_;rintro e w2 ⟨rfl,k2⟩;have HK2:=aZ (ae HKB.out k2);have d1:w2.cell? ⟨w.heap.size,1,none⟩=some (.slice (some y) q rc):=ai.cell (ai.keep HM.out HK2.out) (k:=1) rfl rfl;have r0:=ah (ae HB0.out HK2.out) (HRC.out k hkn);have s0:=(HR.out k hkn).keep (ae HB0.out HK2.out);have l5:=s0.le;have l6:=s0.cap;by_cases hL:L k=q
     ·rw [hL] at r0 s0 l5;by_cases hC:Ch q (R k) 0
      ·have D2:=aZ (oz (A k) q (C k) (R k) 0 w2 s0 (bR k) true ⟨fun _=>hC,fun _=>rfl⟩ om0 om0);have G:=aZ (⟨HMk.out,hL,hC⟩:Mo.CV (K k) (V k) (N k)/\L k=q/\Ch q (R k) 0);obtain⟨u,hu⟩: ∃ z,z=A k:=⟨_,rfl⟩;obtain⟨v,hv⟩: ∃ z,z=C k:=⟨_,rfl⟩;rw [← hu,← hv] at D2 r0;rw [← hv] at l5 l6;clear hu hv hC hL k2 s0 d0 a0 a1 a2;go_wp2_with fail
       refine(D2.out).mono ?_;rintro e w3 ⟨rfl,k3⟩;have HK3:=aZ (ae HK2.out k3);clear k3 d1 r0;go_wp2;go_roundw
       case rel=>exact⟨k+1,om0,by go_num,fun j hj=>by
        by_cases e:j=k
        ·rw [e];exact G.out
        ·exact HJ.out j om0,HK3.out⟩
       case measure=>simp [intOf];omega
      ·have D2:=aZ (oz (A k) q (C k) (R k) 0 w2 s0 (bR k) false ⟨fun e=>(by cases e),fun e=>absurd e hC⟩ om0 om0);have hbf:b=false:=NO.out _ HB.out.1 fun e=>hC (e.each k hkn).2.2;subst hbf;obtain⟨u,hu⟩: ∃ z,z=A k:=⟨_,rfl⟩;obtain⟨v,hv⟩: ∃ z,z=C k:=⟨_,rfl⟩;rw [← hu,← hv] at D2 r0;rw [← hv] at l5 l6;clear hu hv hC hL k2 s0 d0 a0 a1 a2;go_wp2_with fail
       refine(D2.out).mono ?_;rintro e w3 ⟨rfl,k3⟩;have HK3:=aZ (ae HB0.out (ae HK2.out k3));clear k3 d1 r0;go_wp2;go_ret;exact⟨rfl,HK3.out⟩
     ·have hbf:b=false:=NO.out _ HB.out.1 fun e=>hL (e.each k hkn).2.1;subst hbf;have hL': ¬(L k:Int)=q:=om0;obtain⟨u,hu⟩: ∃ z,z=A k:=⟨_,rfl⟩;obtain⟨v,hv⟩: ∃ z,z=C k:=⟨_,rfl⟩;obtain⟨lk,hlk⟩: ∃ z,z=L k:=⟨_,rfl⟩;rw [← hu,← hv,← hlk] at r0;rw [← hlk] at hL';have HK3:=aZ (ae HB0.out HK2.out);clear hu hv hlk hL k2 s0 d0 a0 a1 a2 l5 l6;go_wp2;go_ret;exact⟨rfl,HK3.out⟩
    ·have D1:=aZ (fun W=>aa3 (K k) (V k) (N k) W hM);have hbf:b=false:=NO.out _ HB.out.1 fun e=>hM (e.each k hkn).1;subst hbf;obtain⟨Kk,hKk⟩: ∃ z,z=K k:=⟨_,rfl⟩;obtain⟨Vk,hVk⟩: ∃ z,z=V k:=⟨_,rfl⟩;obtain⟨Nk,hNk⟩: ∃ z,z=N k:=⟨_,rfl⟩;rw [← hKk,← hVk,← hNk] at D1;rw [← hKk] at a0;rw [← hVk] at a1;rw [← hNk] at a2;clear hKk hVk hNk kb hM
     go_wp2_with (first
      |(refine oC rfl 97 _ rl0 (x.add (k*3)) (.agg #[.int .i64 Kk, .int .i64 Vk, .int .i64 Nk]) rl0 (CG _ _ _ _ _ a0.out a1.out a2.out) ?_)
      |fail)
     refine(D1.out _).mono ?_;rintro e w2 ⟨rfl,k2⟩;have HK3:=aZ (ae HB0.out (ae HKB.out k2));clear k2 d0 a0 a1 a2;go_wp2;go_ret;exact⟨rfl,HK3.out⟩
   ·obtain rfl:q=k:=om0;have hbt:b=true:=HB.out.2 ⟨n1,n4,rfl,f0,f1,hj⟩;subst hbt;have HK3:=aZ (ae HB0.out kb);clear hj c0 c1 c2;go_wp2;go_ret;exact⟨rfl,HK3.out⟩
 ·have hbf:b=false:=NO.out _ HB.out.1 fun e=>h0 ⟨e.one,e.four,e.rows,e.lo,e.hi⟩;subst hbf;have B0:=af (Below.refl _ w) (.cells [.slice mo n mc, .slice ro q rc, .int .i64 fl].toArray 25);clear hm hs hr hmo hmc hro hrc hb bR HB NO;by_cases i1:(n:Int)<1
  ·go_enter Tryz.func13,Tryz.ntmps13
   go_wp2;go_ret;exact⟨rfl,B0⟩
  ·by_cases i2:4<(n:Int)
   ·go_enter Tryz.func13,Tryz.ntmps13
    go_wp2;go_ret;exact⟨rfl,B0⟩
   ·by_cases i3:(q:Int)=n
    ·by_cases i4:fl<0
     ·go_enter Tryz.func13,Tryz.ntmps13
      go_wp2;go_ret;exact⟨rfl,B0⟩
     ·have i5:67108864<fl:=om0;go_enter Tryz.func13,Tryz.ntmps13
      go_wp2;go_ret;exact⟨rfl,B0⟩
    ·go_enter Tryz.func13,Tryz.ntmps13
     go_wp2;go_ret;exact⟨rfl,B0⟩
theorem CJ(mo ro lo ho:Option Addr)(n mc q rc l cm m hc:Nat)(fl:Int)(bc bx b:Bool)(w:World)
 (hC: ∀ W,Below w.heap.size w W->Calls Tryz.prog 13 #[.agg #[.slice mo n mc, .slice ro q rc, .int .i64 fl]] W fun e w'=>e= .returned (.bool bc)/\Below W.heap.size W w')
 (hX: ∀ W,Below w.heap.size w W->Calls Tryz.prog 17 #[.slice lo l cm, .slice ho m hc] W fun e w'=>e= .returned (.bool bx)/\Below W.heap.size W w')
 (hb:b=true↔bc=true/\l=n/\bx=true):
 Calls Tryz.prog 38 #[.agg #[.slice mo n mc, .slice ro q rc, .int .i64 fl], .agg #[.slice lo l cm, .slice ho m hc]] w fun e w'=>e= .returned (.bool b)/\Below w.heap.size w w':=by
 have m0:=(aH w 25 [.slice mo n mc, .slice ro q rc, .int .i64 fl]).alloc (.cells [.slice lo l cm, .slice ho m hc].toArray 29);have m1:=bU w (.cells [.slice mo n mc, .slice ro q rc, .int .i64 fl].toArray 25) 29 [.slice lo l cm, .slice ho m hc];have B0:=af (af (Below.refl _ w) (.cells [.slice mo n mc, .slice ro q rc, .int .i64 fl].toArray 25)) (.cells [.slice lo l cm, .slice ho m hc].toArray 29);obtain⟨W,hW⟩: ∃ W,W=(w.alloc (.cells [.slice mo n mc, .slice ro q rc, .int .i64 fl].toArray 25)).alloc (.cells [.slice lo l cm, .slice ho m hc].toArray 29):=⟨_,rfl⟩;rw [← hW] at m0 m1 B0;have HW:=aZ hW;have H0:=aZ m0;have H1:=aZ m1;have HB0:=aZ B0;have D1:=aZ (hC W B0);have D2:=aZ hX;have HB:=aZ hb;clear hW m0 m1 B0 hC hX hb;go_enter Tryz.func38,Tryz.ntmps38
 go_wp2_with (first
  |(rw [← HW.out])
  |((with_reducible show wpList _ _ _ _ _ _);refine Ud.iG IY _ (by with_reducible rfl) w.heap.size _ rl0 H0.out rfl (by kernel_rfl) ?_)
  |fail)
 refine(D1.out).mono ?_;rintro e w1 ⟨rfl,k1⟩;have d0:w1.cell? ⟨w.heap.size,0,none⟩=some (.slice mo n mc):=ai.cell (ai.keep H0.out k1) (k:=0) rfl rfl;have d1:w1.cell? ⟨w.heap.size+1,0,none⟩=some (.slice lo l cm):=ai.cell (ai.keep H1.out k1) (k:=0) rfl rfl;have d2:w1.cell? ⟨w.heap.size+1,1,none⟩=some (.slice ho m hc):=ai.cell (ai.keep H1.out k1) (k:=1) rfl rfl;have HK:=aZ (ae HB0.out k1);have D3:=aZ (D2.out w1 HK.out);clear k1 D1 D2;cases bc
 ·have hbf:b=false:=by cases b<;>first|rfl|exact absurd (HB.out.1 rfl).1 (by decide)
  subst hbf;go_wp2;go_ret;exact⟨rfl,HK.out⟩
 ·by_cases e:l=n
  ·subst e
   have hbe:b=bx:=by
    cases b<;>cases bx<;>first|rfl|exact absurd (HB.out.1 rfl).2.2 (by decide)|exact absurd (HB.out.2 ⟨rfl,rfl,rfl⟩) (by decide)
   subst hbe;clear HB;go_wp2_with fail
   refine(D3.out).mono ?_;rintro e w2 ⟨rfl,k2⟩;have HK2:=aZ (ae HK.out k2);clear k2 d0 d1 d2;cases b
   all_goals go_wp2
   all_goals go_ret
   all_goals exact⟨rfl,HK2.out⟩
  ·have e': ¬(l:Int)=n:=om0;have hbf:b=false:=by cases b<;>first|rfl|exact absurd (HB.out.1 rfl).2.1 e
   subst hbf;clear HB;go_wp2;go_ret;exact⟨rfl,HK.out⟩
end
section
open Go.RowKit Vc St Mt Cn Mx Im El
attribute [local go_sem ↓] Go.wp_at_zero Go.wp_at_succ
namespace Im
theorem xw:Is 29 2:=⟨by kernel_rfl,⟨_,Tryz.underlying29,rfl⟩⟩
structure Dls(w:World)(lo:Option Addr)(n cm:Nat)(X:Nat->Nat->Int)(P:Nat->Nat->Nat->Int):Prop where
 ex: ∃ (A pl:Nat->Option Addr) (C pc:Nat->Nat),Dst w lo n cm (fun k=> .slice (A k) 6 (C k)) (fun k=> .slice (pl k) 6 (pc k))/\ ∀ k,k<n->Sl w (A k) 6 (C k) (X k)/\Grid w (pl k) 6 (pc k) 6 (P k)
theorem Dls.keep{w w':World}{lo:Option Addr}{n cm:Nat}{X:Nat->Nat->Int}{P:Nat->Nat->Nat->Int}(h:Dls w lo n cm X P)(b:Below w.heap.size w w'):Dls w' lo n cm X P:=by
 obtain⟨A,pl,C,pc,h1,h2⟩:=h.ex;exact⟨A,pl,C,pc,h1.keep b,fun k hk=>⟨(h2 k hk).1.keep b,(h2 k hk).2.keep b⟩⟩
theorem Dls.nil(w:World)(X:Nat->Nat->Int)(P:Nat->Nat->Nat->Int):Dls w none 0 0 X P:=
 ⟨fun _=>none,fun _=>none,fun _=>0,fun _=>0,⟨Nat.le_refl _,om0,fun k hk=>by omega⟩,fun k hk=>by omega⟩
theorem aa4{t:TypeId}{o:Nat}{w:World}{v u:Value}{n m:Nat}{X:Nat->Nat->Int}{P:Nat->Nat->Nat->Int}{z:Nat->Int}(h:El.Lsn t 2 o w v n (StR X P) u m z): ∃ lo cm,v= .slice lo n cm/\Dls w lo n cm X P:=by
 obtain⟨lo,cm,A,pl,C,pc,e,h1,h2⟩:=aar h.els;exact⟨lo,cm,e,A,pl,C,pc,h1,h2⟩
theorem UC{w w':World}{g:Nat}{t:TypeId}(h:ai w g t [.slice none 0 0, .slice none 0 0]){lo:Option Addr}{n cm:Nat}{X:Nat->Nat->Int}{P:Nat->Nat->Nat->Int}(hL:Dls w lo n cm X P)(k:Ld.But (· =g) w w'):Dls w' lo n cm X P:=by
 obtain⟨A,pl,C,pc,h1,h2⟩:=hL.ex;refine⟨A,pl,C,pc,⟨h1.le,h1.cap,fun j hj=> ?_⟩,fun j hj=>⟨Ud.mF h (fun z q=>by simp at q) (h2 j hj).1 om0 k,Ud.qX h (fun z q=>by simp at q) (fun q c e=>by simp at e) (h2 j hj).2 om0 k⟩⟩;obtain⟨x,hx,c0,c1⟩:=h1.at' j hj;exact⟨x,hx,k.cell c0 (fun e=>by have:=Ud.yw h c0 e;simp at this),k.cell c1 (fun e=>by have:=Ud.yw h c1 e;simp at this)⟩
theorem En{w w':World}{g:Nat}{t:TypeId}(h:ai w g t [.slice none 0 0, .slice none 0 0]){ao:Option Addr}{n ca:Nat}{z:Nat->Int}(s:Sl w ao n ca z)(k:Ld.But (· =g) w w'):Sl w' ao n ca z:=by
 by_cases e:n=0
 · subst e;exact⟨s.le,s.cap,fun j hj=>by omega⟩
 · exact Ud.mF h (fun z q=>by simp at q) s om0 k
end Im
end
section
open Go.RowKit Vc St Mt Cn Mx Im El
attribute [local go_sem ↓] Go.wp_at_zero Go.wp_at_succ
namespace Im
def All(ok:Nat->Prop)(n:Nat):Prop:= ∀ k,k<n->ok k
theorem sl_im{w w':World}{g:Nat}{t:TypeId}{v:Value}{k:Nat}(h:ai w g t [v, .slice none 0 0])(hv: ∃ ao ca,v= .slice ao k ca/\k<=ca/\ca<=9223372036854775807){ao:Option Addr}{n ca:Nat}{z:Nat->Int}(s:Sl w ao n ca z)(b:Ld.But (· =g) w w'):Sl w' ao n ca z:=by
 obtain⟨_,_,rfl,_⟩:=hv;by_cases e:n=0
 · subst e;exact⟨s.le,s.cap,fun j hj=>by omega⟩
 · exact Ud.mF h (fun z q=>by simp at q) s om0 b
end Im
theorem O7(mo ro lo ho:Option Addr)(m mc q rc l cm h hc:Nat)(fl x y a b c:Int)(w:World)
 (hF: ∀ W,Below w.heap.size w W->Calls Tryz.prog 38 #[.agg #[.slice mo m mc, .slice ro q rc, .int .i64 fl], .agg #[.slice lo l cm, .slice ho h hc]] W fun e w'=>e= .returned (.bool false)/\Below W.heap.size W w'):
 Calls Tryz.prog 22 #[.agg #[.slice mo m mc, .slice ro q rc, .int .i64 fl], .agg #[.slice lo l cm, .slice ho h hc], .agg (Ud.pv x y a b c).toArray] w fun e w'=>e= .returned (.tuple #[.agg #[.slice none 0 0, .slice none 0 0], .bool false, .int .i64 1])/\Below w.heap.size w w':=by
 have m0:=(((aH w 25 [.slice mo m mc, .slice ro q rc, .int .i64 fl]).alloc (.cells [.slice lo l cm, .slice ho h hc].toArray 29)).alloc (.cells (Ud.pv x y a b c).toArray 67)).alloc (.cells [.slice none 0 0, .slice none 0 0].toArray 29);have m1:=((bU w (.cells [.slice mo m mc, .slice ro q rc, .int .i64 fl].toArray 25) 29 [.slice lo l cm, .slice ho h hc]).alloc (.cells (Ud.pv x y a b c).toArray 67)).alloc (.cells [.slice none 0 0, .slice none 0 0].toArray 29);have m2:=(dH w (.cells [.slice mo m mc, .slice ro q rc, .int .i64 fl].toArray 25) (.cells [.slice lo l cm, .slice ho h hc].toArray 29) 67 (Ud.pv x y a b c)).alloc (.cells [.slice none 0 0, .slice none 0 0].toArray 29);have m3:=qN w (.cells [.slice mo m mc, .slice ro q rc, .int .i64 fl].toArray 25) (.cells [.slice lo l cm, .slice ho h hc].toArray 29) (.cells (Ud.pv x y a b c).toArray 67) 29 [.slice none 0 0, .slice none 0 0];have B0:Below w.heap.size w ((((w.alloc (.cells [.slice mo m mc, .slice ro q rc, .int .i64 fl].toArray 25)).alloc (.cells [.slice lo l cm, .slice ho h hc].toArray 29)).alloc (.cells (Ud.pv x y a b c).toArray 67)).alloc (.cells [.slice none 0 0, .slice none 0 0].toArray 29)):=af (af (af (af (Below.refl _ _) _) _) _) _;obtain⟨W,hW⟩: ∃ W,W=(((w.alloc (.cells [.slice mo m mc, .slice ro q rc, .int .i64 fl].toArray 25)).alloc (.cells [.slice lo l cm, .slice ho h hc].toArray 29)).alloc (.cells (Ud.pv x y a b c).toArray 67)).alloc (.cells [.slice none 0 0, .slice none 0 0].toArray 29):=⟨_,rfl⟩;rw [← hW] at m0 m1 m2 m3 B0;have HW:=aZ hW;have H0:=aZ m0;have H1:=aZ m1;have H2:=aZ m2;have H3:=aZ m3;have HB0:=aZ B0;have D1:=aZ (hF W B0);clear hW m0 m1 m2 m3 B0 hF;go_enter Tryz.func22,Tryz.ntmps22
 go_wp2_with (first
  |(rw [← HW.out])
  |((with_reducible show wpList _ _ _ _ _ _);refine Ud.iG IY _ (by with_reducible rfl) w.heap.size _ rl0 H0.out rfl (by kernel_rfl) ?_)
  |((with_reducible show wpList _ _ _ _ _ _);refine Ud.iG xw _ (by with_reducible rfl) (w.heap.size+1) _ rl0 H1.out rfl (by kernel_rfl) ?_)
  |fail)
 refine(D1.out).mono ?_;rintro e w1 ⟨rfl,k1⟩;have r1:=ai.keep H3.out k1;have B1:=ae HB0.out k1;clear D1 k1;have rR:=ai.row r1 [.slice none 0 0, .slice none 0 0];have bR:=St.aJ B1 (g:=w.heap.size+1+1+1) om0 [.slice none 0 0, .slice none 0 0].toArray
 go_wp2_with (first
  |((with_reducible show wpList _ _ _ _ _ _);refine Ud.Eb xw _ _ (by with_reducible rfl) _ _ [.slice none 0 0, .slice none 0 0] rl0 rl0 (by with_reducible exact r1) rfl rfl (nJ _ _ _ _ _ _) rfl ?_)
  |fail)
 exact bodyPost_ret (dJ xw Tryz.results22 _ _ (w.heap.size+1+1+1) [.slice none 0 0, .slice none 0 0] rfl rR rfl) rfl ⟨rfl,bR⟩
theorem CP(mo ro lo ho:Option Addr)(n m mc q rc cm hc:Nat)(fl x y a b c ec:Int)(X:Nat->Nat->Int)(P:Nat->Nat->Nat->Int)(ok:Nat->Prop)(v:Nat->Nat->Int)(L:Nat->Nat->Nat->Int)(D:Nat->Nat->Int)(g1 g2 g3:Nat->Bool)(nu:Nat->Int)(Y:Nat->Nat->Int)(Q:Nat->Nat->Nat->Int)(z:Nat->Int)(ow:Bool)(w:World)
 (hF: ∀ W,Below w.heap.size w W->Calls Tryz.prog 38 #[.agg #[.slice mo m mc, .slice ro q rc, .int .i64 fl], .agg #[.slice lo n cm, .slice ho n hc]] W fun e w'=>e= .returned (.bool true)/\Below W.heap.size W w')
 (hL:Dls w lo n cm X P) (hn:n<=4) (hec:ec≠0)
 (hO: ∀ k,k<n-> ∀ W xo xc po pc,Sl W xo 6 xc (X k)->Grid W po 6 pc 6 (P k)->Calls Tryz.prog 59 #[.agg #[.slice xo 6 xc, .slice po 6 pc], .agg (Ud.pv x y a b c).toArray] W fun e w'=>
   ((¬ok k/\e= .returned (.tuple #[.agg #[.slice none 0 0, .slice none 0 0, .slice none 0 0], .bool false, .int .i64 ec]))\/
    (ok k/\ ∃ gv gc gl cl gd cd,e= .returned (.tuple #[.agg #[.slice gv 2 gc, .slice gl 2 cl, .slice gd 2 cd], .bool (g1 k), .int .i64 0])/\Sl w' gv 2 gc (v k)/\Grid w' gl 2 cl 2 (L k)/\Sl w' gd 2 cd (D k)))/\Below W.heap.size W w')
 (hK: ∀ k,k<n->ok k-> ∀ W gv gc gl cl gd cd,Sl W gv 2 gc (v k)->Grid W gl 2 cl 2 (L k)->Sl W gd 2 cd (D k)->Calls Tryz.prog 60 #[.agg #[.slice gv 2 gc, .slice gl 2 cl, .slice gd 2 cd]] W fun e w'=>e= .returned (.tuple #[.int .i64 (nu k), .bool (g2 k)])/\Below W.heap.size W w')
 (hN: ∀ k,k<n->ok k-> ∀ W xo xc po pc,Sl W xo 6 xc (X k)->Grid W po 6 pc 6 (P k)->Calls Tryz.prog 61 #[.agg #[.slice xo 6 xc, .slice po 6 pc], .agg (Ud.pv x y a b c).toArray] W fun e w'=> ∃ yo yc ro rc,e= .returned (.tuple #[.agg #[.slice yo 6 yc, .slice ro 6 rc], .bool (g3 k), .int .i64 0])/\Below W.heap.size W w'/\El.Free W.heap.size w' (fun U=>Sl U yo 6 yc (Y k)/\Grid U ro 6 rc 6 (Q k)))
 (hW': ∀ W uo uc,Below w.heap.size w W->Sl W uo n uc nu->Calls Tryz.prog 62 #[.slice uo n uc, .slice ho n hc, .int .i64 fl] W fun e w'=> ∃ vo vc,e= .returned (.tuple #[.slice vo n vc, .bool ow, .int .i64 0])/\Sl w' vo n vc z/\Below W.heap.size W w'):
 Calls Tryz.prog 22 #[.agg #[.slice mo m mc, .slice ro q rc, .int .i64 fl], .agg #[.slice lo n cm, .slice ho n hc], .agg (Ud.pv x y a b c).toArray] w fun e w'=>
  ((¬All ok n)/\e= .returned (.tuple #[.agg #[.slice none 0 0, .slice none 0 0], .bool false, .int .i64 ec])/\Below w.heap.size w w')\/
  ((All ok n)/\ ∃ vo vm no nc,e= .returned (.tuple #[.agg #[.slice vo n vm, .slice no n nc], .bool (dN (fun k=>g1 k||g2 k||g3 k) n||ow), .int .i64 0])/\Dls w' vo n vm Y Q/\Sl w' no n nc z/\Below w.heap.size w w'):=by
 have m0:=(((aH w 25 [.slice mo m mc, .slice ro q rc, .int .i64 fl]).alloc (.cells [.slice lo n cm, .slice ho n hc].toArray 29)).alloc (.cells (Ud.pv x y a b c).toArray 67)).alloc (.cells [.slice none 0 0, .slice none 0 0].toArray 29);have m1:=((bU w (.cells [.slice mo m mc, .slice ro q rc, .int .i64 fl].toArray 25) 29 [.slice lo n cm, .slice ho n hc]).alloc (.cells (Ud.pv x y a b c).toArray 67)).alloc (.cells [.slice none 0 0, .slice none 0 0].toArray 29);have m2:=(dH w (.cells [.slice mo m mc, .slice ro q rc, .int .i64 fl].toArray 25) (.cells [.slice lo n cm, .slice ho n hc].toArray 29) 67 (Ud.pv x y a b c)).alloc (.cells [.slice none 0 0, .slice none 0 0].toArray 29);have m3:=qN w (.cells [.slice mo m mc, .slice ro q rc, .int .i64 fl].toArray 25) (.cells [.slice lo n cm, .slice ho n hc].toArray 29) (.cells (Ud.pv x y a b c).toArray 67) 29 [.slice none 0 0, .slice none 0 0];have B0:Below w.heap.size w ((((w.alloc (.cells [.slice mo m mc, .slice ro q rc, .int .i64 fl].toArray 25)).alloc (.cells [.slice lo n cm, .slice ho n hc].toArray 29)).alloc (.cells (Ud.pv x y a b c).toArray 67)).alloc (.cells [.slice none 0 0, .slice none 0 0].toArray 29)):=af (af (af (af (Below.refl _ _) _) _) _) _;obtain⟨W,hW⟩: ∃ W,W=(((w.alloc (.cells [.slice mo m mc, .slice ro q rc, .int .i64 fl].toArray 25)).alloc (.cells [.slice lo n cm, .slice ho n hc].toArray 29)).alloc (.cells (Ud.pv x y a b c).toArray 67)).alloc (.cells [.slice none 0 0, .slice none 0 0].toArray 29):=⟨_,rfl⟩;rw [← hW] at m0 m1 m2 m3 B0;have HW:=aZ hW;have H0:=aZ m0;have H1:=aZ m1;have H2:=aZ m2;have H3:=aZ m3;have HB0:=aZ B0;have D1:=aZ (hF W B0);have HO:=aZ hO;have HK:=aZ hK;have HNx:=aZ hN;have HWt:=aZ hW';obtain⟨A',pl',C',pc',hd,hE⟩:=hL.ex;have l3:=hd.le;have l4:=hd.cap;obtain⟨xa,hvo,hdc⟩:=hd.get;have HVO:=aZ hvo;have HDC:=aZ hdc;have HE':=aZ hE;obtain⟨G,hG⟩: ∃ G:Nat->Bool,G=fun k=>g1 k||g2 k||g3 k:=⟨_,rfl⟩
 have HAny:Hid (∀ k,dN G (k+1)=(dN G k||(g1 k||g2 k||g3 k))):=by rw [hG];exact fun _=>rfl
 rw [← hG];clear hG hW m0 m1 m2 m3 B0 hF hO hK hN hW' hL hd hvo hdc hE;go_enter Tryz.func22,Tryz.ntmps22
 go_wp2_with (first
  |(rw [← HW.out])
  |((with_reducible show wpList _ _ _ _ _ _);refine Ud.iG IY _ (by with_reducible rfl) w.heap.size _ rl0 H0.out rfl (by kernel_rfl) ?_)
  |((with_reducible show wpList _ _ _ _ _ _);refine Ud.iG xw _ (by with_reducible rfl) (w.heap.size+1) _ rl0 H1.out rfl (by kernel_rfl) ?_)
  |fail)
 refine(D1.out).mono ?_;rintro e w3 ⟨rfl,k1⟩;have K3:=aZ k1;clear k1 D1 HW
 go_wp2_with (first
  |((with_reducible show wpList _ _ _ _ _ _);refine St.aF xw rfl _ _ rl0 _ [.slice none 0 0, .slice none 0 0] [.slice none 0 0, .slice none 0 0] rl0 rl0 rfl rfl (nJ _ _ _ _ _ _) ?_;intro w6 n6 k6)
  |fail)
 have l6:=ai.lt n6;obtain⟨gs,hgs⟩: ∃ g,g=w3.heap.size:=⟨_,rfl⟩;rw [← hgs] at n6 l6 ⊢;obtain⟨o2,ho2⟩: ∃ o,o=w6.heap.size:=⟨_,rfl⟩;rw [← ho2] at l6;have z6:El.Lsn 60 2 o2 w6 (.slice none 0 0) 0 (StR Y Q) (.slice none 0 0) 0 nu:=El.Lsn.nil om0 _ _ _ _;have HE:Hid (∀ V,Ld.But (fun q=>q=gs\/o2<=q) w6 V->Below w3.heap.size w3 V):=fun V k=>k.below k6 (by have:=k6.size;omega) (by rintro q (e|e)<;>omega)
 have HGW:w.heap.size+1+1+1<gs:=by have:=K3.out.size;have:=ai.lt H3.out;omega
 clear k6 hgs ho2;go_loopw [10,11,12] (fun lg an i ws=> ∃ (k:Nat) (vX:Value),k<=n/\i= .int .i64 (k:Int)/\an= .bool (dN G k)/\(∀ j,j<k->ok j)/\ai ws gs 29 [vX, .slice none 0 0]/\El.Lsn 60 2 o2 ws vX k (StR Y Q) lg k nu/\Ld.But (fun q=>q=gs\/o2<=q) w6 ws) (fun _ _ i _=>n- (intOf i).toNat)
 case atStart=>exact⟨0,_,om0,rfl,rfl,fun j hj=>by omega,n6,z6,Ld.But.refl _ _⟩
 case round=>
  rename World=>ws;obtain⟨k,vX,hk,rfl,rfl,hj,nl,zl,bl⟩:=hrel;by_cases hkn:k<n
  · have E1:=HE.out _ bl;have KW:=ae K3.out E1;have KL:=ae HB0.out KW;have d0:ws.cell? ⟨w.heap.size+1,0,none⟩=some (.slice lo n cm):=ai.cell (ai.keep H1.out KW) (k:=0) rfl rfl;obtain rfl:=HVO.out om0;obtain⟨u0,u1⟩:=HDC.out k hkn;have u0:=ah KL u0;have u1:=ah KL u1;have sX:=(HE'.out k hkn).1.keep KL;have gP:=(HE'.out k hkn).2.keep KL;have kn:(k:Int)<n:=om0;have O1:=aZ (HO.out k hkn);have A1:=aZ (HAny.out k);have KK:=aZ (HK.out k hkn);have NN:=aZ (HNx.out k hkn);have HJ:=aZ hj;obtain⟨au,hau⟩: ∃ z,z=A' k:=⟨_,rfl⟩;obtain⟨cu,hcu⟩: ∃ z,z=C' k:=⟨_,rfl⟩;obtain⟨av,hav⟩: ∃ z,z=pl' k:=⟨_,rfl⟩;obtain⟨cv,hcv⟩: ∃ z,z=pc' k:=⟨_,rfl⟩;rw [← hau,← hcu] at u0 sX;rw [← hav,← hcv] at u1 gP;obtain⟨q1,hq1⟩: ∃ z,z=g1 k:=⟨_,rfl⟩;obtain⟨q2,hq2⟩: ∃ z,z=g2 k:=⟨_,rfl⟩;obtain⟨q3,hq3⟩: ∃ z,z=g3 k:=⟨_,rfl⟩;obtain⟨nk,hnk⟩: ∃ z,z=nu k:=⟨_,rfl⟩;rw [← hq1] at O1;rw [← hq2,← hnk] at KK;rw [← hq3] at NN;rw [← hq1,← hq2,← hq3] at A1;have HNU:=aZ hnk;have Z0:=aZ zl;have NL:=aZ nl;have BL:=aZ bl;have SX:=aZ sX;have GP:=aZ gP;have U0:=aZ (⟨d0,u0,u1,ai.keep H2.out KW⟩:ws.cell? ⟨w.heap.size+1,0,none⟩=some (.slice (some xa) n cm)/\ws.cell? (xa.add (k*2))=some (.slice au 6 cu)/\ws.cell? ((xa.add (k*2)).add 1)=some (.slice av 6 cv)/\ai ws (w.heap.size+1+1) 67 (Ud.pv x y a b c));have HSs:Hid (∀ U,Below ws.heap.size ws U->U.cell? ⟨w.heap.size+1,0,none⟩=some (.slice (some xa) n cm)/\U.cell? (xa.add (k*2))=some (.slice au 6 cu)/\U.cell? ((xa.add (k*2)).add 1)=some (.slice av 6 cv)/\ai U (w.heap.size+1+1) 67 (Ud.pv x y a b c)):=fun U k=>⟨ah k U0.out.1,ah k U0.out.2.1,ah k U0.out.2.2.1,ai.keep U0.out.2.2.2 k⟩;have R3:=aZ (ai.keep H3.out KW);have KLh:=aZ KL;clear hau hcu hav hcv hq1 hq2 hq3 hnk zl nl bl sX gP u0 u1 E1 KL KW hj;by_cases hok:ok k
    · have O2:Hid (∀ U,Below ws.heap.size ws U->Calls Tryz.prog 59 #[.agg #[.slice au 6 cu, .slice av 6 cv], .agg (Ud.pv x y a b c).toArray] U fun e w'=> ∃ gv gc gl cl gd cd,e= .returned (.tuple #[.agg #[.slice gv 2 gc, .slice gl 2 cl, .slice gd 2 cd], .bool q1, .int .i64 0])/\Sl w' gv 2 gc (v k)/\Grid w' gl 2 cl 2 (L k)/\Sl w' gd 2 cd (D k)/\Below U.heap.size U w'):=fun U b=>by
       refine(O1.out U au cu av cv (SX.out.keep b) (GP.out.keep b)).mono ?_;rintro e w' ⟨⟨h,_⟩|⟨_,gv,gc,gl,cl,gd,cd,h,h1,h2,h3⟩,h4⟩
       · exact absurd hok h
       · exact⟨gv,gc,gl,cl,gd,cd,h,h1,h2,h3,h4⟩
      have KK:=aZ (KK.out hok);have NN:Hid (∀ U,Below ws.heap.size ws U->Calls Tryz.prog 61 #[.agg #[.slice au 6 cu, .slice av 6 cv], .agg (Ud.pv x y a b c).toArray] U fun e w'=> ∃ yo yc ro rc,e= .returned (.tuple #[.agg #[.slice yo 6 yc, .slice ro 6 rc], .bool q3, .int .i64 0])/\Below U.heap.size U w'/\El.Free U.heap.size w' (fun U=>Sl U yo 6 yc (Y k)/\Grid U ro 6 rc 6 (Q k))):=fun U b=>NN.out hok U au cu av cv (SX.out.keep b) (GP.out.keep b);have HOK:=aZ hok;clear O1 hok SX GP;go_upto_region 9 with fail
      go_cut [13,14,15] (fun p o f wx=> ∃ (g:Nat) (gv:Option Addr) (gc:Nat) (gl:Option Addr) (cl:Nat) (gd:Option Addr) (cd:Nat),p= .pointer (some ⟨g,0,none⟩)/\o= .bool q1/\f= .int .i64 0/\ai wx g 126 [.slice gv 2 gc, .slice gl 2 cl, .slice gd 2 cd]/\Sl wx gv 2 gc (v k)/\Grid wx gl 2 cl 2 (L k)/\Sl wx gd 2 cd (D k)/\Below ws.heap.size ws wx)
      case first=>
       refine Ru.aS [] (fun w'=>w'.cell? ⟨w.heap.size+1,0,none⟩=some (.slice (some xa) n cm)/\w'.cell? (xa.add (k*2))=some (.slice au 6 cu)/\w'.cell? ((xa.add (k*2)).add 1)=some (.slice av 6 cv)/\ai w' (w.heap.size+1+1) 67 (Ud.pv x y a b c)) (by kernel_rfl) (HSs.out _ ((Vc.az _))) (fun hHeld=> ?_);refine Ru.tk4 0 (.pointer (some ⟨w.heap.size+1,0,none⟩)) hHeld ?_;refine Ru.tk4 1 (.slice (some xa) n cm) hHeld ?_;refine Ru.tk4 2 (.int .i64 (k:Int)) hHeld ?_;refine Ru.tk4 3 (.pointer (some (xa.add (k*2)))) hHeld ?_;refine Ru.tk 4 (.agg #[.slice au 6 cu, .slice av 6 cv]) rfl (ve (by kernel_rfl) _ rl0 (xa.add (k*2)) _ _ rl0 (fun w h=>⟨h.2.1,h.2.2.1⟩)) hHeld ?_;refine Ru.tk 5 (.agg (Ud.pv x y a b c).toArray) rfl (Ru.fF Ud.qm (by kernel_rfl) _ rl0 (w.heap.size+1+1) _ rl0 (fun w h=>h.2.2.2) rfl) hHeld ?_;have d_0:ws.drew.heap.size=ws.heap.size:=rfl;refine Ru.rs [6,11] ?_;refine Ru.co (fun K hK=> ?_) ?_
       · go_simp;refine(O2.out _ (Vc.az ws)).mono ?_;rintro e v_1 ⟨gv_1,gc_1,gl_1,cl_1,gd_1,cd_1,rfl,sa_1,sb_1,sc_1,k_1⟩;have D_1:=ae (Vc.az ws) k_1;have s_1:=k_1.size;go_wp2_with fail
         refine Ru.hd hK (HSs.out _ (D_1)) (fun hHeld=> ?_);clear hK K;refine Ru.tk4 7 (.tuple #[.agg #[.slice gv_1 2 gc_1, .slice gl_1 2 cl_1, .slice gd_1 2 cd_1], .bool q1, .int .i64 0]) hHeld ?_;refine Ru.tk4 8 (.agg #[.slice gv_1 2 gc_1, .slice gl_1 2 cl_1, .slice gd_1 2 cd_1]) hHeld ?_;refine Ru.tk4 9 (.bool q1) hHeld ?_;refine Ru.tk4 10 (.int .i64 0) hHeld ?_;refine Ru.rd 11 (fun K hK=> ?_);go_simp;have n_2:ai (v_1.alloc (.cells [.slice none 0 0, .slice none 0 0, .slice none 0 0].toArray 126)) (v_1.heap.size) 126 [.slice none 0 0, .slice none 0 0, .slice none 0 0]:=aH v_1 126 [.slice none 0 0, .slice none 0 0, .slice none 0 0];have a_2:=af (Below.refl _ v_1) (.cells [.slice none 0 0, .slice none 0 0, .slice none 0 0].toArray 126);have g_2:=D_1.size;have e_2:(v_1.alloc (.cells [.slice none 0 0, .slice none 0 0, .slice none 0 0].toArray 126)).heap.size=v_1.heap.size+1:=by simp
         have D_2:=ae D_1 a_2;have sa_2:=sa_1.keep a_2;have sb_2:=sb_1.keep a_2;have sc_2:=sc_1.keep a_2;refine Ru.hd hK (HSs.out _ (D_2)) (fun hHeld=> ?_);clear hK K;refine Ru.rd 12 (fun K hK=> ?_);refine Ru.kK Ud.xe (by kernel_rfl) _ _ rl0 (v_1.heap.size) _ ([.slice gv_1 2 gc_1, .slice gl_1 2 cl_1, .slice gd_1 2 cd_1]) rl0 rl0 n_2 rfl rfl (by intro v hv;simp only [List.mem_cons,List.not_mem_nil,or_false] at hv;rcases hv with rfl|rfl|rfl<;>rfl) ?_
         have nE:=ai.row n_2 ([.slice gv_1 2 gc_1, .slice gl_1 2 cl_1, .slice gd_1 2 cd_1]);have bE:=St.aJ D_2 (g:=v_1.heap.size) om0 ([.slice gv_1 2 gc_1, .slice gl_1 2 cl_1, .slice gd_1 2 cd_1]).toArray;have kB:=St.aJ a_2 (g:=v_1.heap.size) (Nat.le_refl _) ([.slice gv_1 2 gc_1, .slice gl_1 2 cl_1, .slice gd_1 2 cd_1]).toArray;refine Ru.hd hK (HSs.out _ (bE)) (fun hHeld=> ?_);clear hK K;refine Ru.tk4 13 (.bool q1) hHeld ?_;refine Ru.tk4 14 (.int .i64 0) hHeld ?_;refine Ru.bI (by kernel_rfl) ?_;go_wp2_with fail
         go_meet;exact⟨_,_,_,_,_,_,_,rfl,rfl,rfl,nE,Ud.mF n_2 (fun z q=>by simp at q) sa_2 om0 (Ud.gp _ (v_1.heap.size) ([.slice gv_1 2 gc_1, .slice gl_1 2 cl_1, .slice gd_1 2 cd_1]).toArray),Ud.qX n_2 (fun z q=>by simp at q) (fun q c e=>by simp at e) sb_2 om0 (Ud.gp _ (v_1.heap.size) ([.slice gv_1 2 gc_1, .slice gl_1 2 cl_1, .slice gd_1 2 cd_1]).toArray),Ud.mF n_2 (fun z q=>by simp at q) sc_2 om0 (Ud.gp _ (v_1.heap.size) ([.slice gv_1 2 gc_1, .slice gl_1 2 cl_1, .slice gd_1 2 cd_1]).toArray),bE⟩
       refine Ru.co1 (fun K hK=> ?_);go_simp;have n_3:ai (ws.drew.alloc (.cells [.slice none 0 0, .slice none 0 0, .slice none 0 0].toArray 126)) (ws.heap.size) 126 [.slice none 0 0, .slice none 0 0, .slice none 0 0]:=aH ws.drew 126 [.slice none 0 0, .slice none 0 0, .slice none 0 0];have a_3:=af (Below.refl _ ws.drew) (.cells [.slice none 0 0, .slice none 0 0, .slice none 0 0].toArray 126);have g_3:=(Vc.az ws).size;have e_3:(ws.drew.alloc (.cells [.slice none 0 0, .slice none 0 0, .slice none 0 0].toArray 126)).heap.size=ws.heap.size+1:=by simp
       have q_3:(ws.alloc (.cells [.slice none 0 0, .slice none 0 0, .slice none 0 0].toArray 126)).drew.heap.size=ws.heap.size+1:=by simp
       have D_3:=ae (Vc.az ws) a_3;refine Ru.hd hK (HSs.out _ (D_3)) (fun hHeld=> ?_);clear hK K;refine Ru.rd 6 (fun K hK=> ?_);go_simp;refine(O2.out _ D_3).mono ?_;rintro e v_4 ⟨gv_4,gc_4,gl_4,cl_4,gd_4,cd_4,rfl,sa_4,sb_4,sc_4,k_4⟩;have D_4:=ae D_3 k_4;have s_4:=k_4.size;have n_4:=ai.keep n_3 k_4;go_wp2_with fail
       refine Ru.hd hK (HSs.out _ (D_4)) (fun hHeld=> ?_);clear hK K;refine Ru.tk4 7 (.tuple #[.agg #[.slice gv_4 2 gc_4, .slice gl_4 2 cl_4, .slice gd_4 2 cd_4], .bool q1, .int .i64 0]) hHeld ?_;refine Ru.tk4 8 (.agg #[.slice gv_4 2 gc_4, .slice gl_4 2 cl_4, .slice gd_4 2 cd_4]) hHeld ?_;refine Ru.tk4 9 (.bool q1) hHeld ?_;refine Ru.tk4 10 (.int .i64 0) hHeld ?_;refine Ru.rd 12 (fun K hK=> ?_);refine Ru.kK Ud.xe (by kernel_rfl) _ _ rl0 (ws.heap.size) _ ([.slice gv_4 2 gc_4, .slice gl_4 2 cl_4, .slice gd_4 2 cd_4]) rl0 rl0 n_4 rfl rfl (by intro v hv;simp only [List.mem_cons,List.not_mem_nil,or_false] at hv;rcases hv with rfl|rfl|rfl<;>rfl) ?_
       have nE:=ai.row n_4 ([.slice gv_4 2 gc_4, .slice gl_4 2 cl_4, .slice gd_4 2 cd_4]);have bE:=St.aJ D_4 (g:=ws.heap.size) om0 ([.slice gv_4 2 gc_4, .slice gl_4 2 cl_4, .slice gd_4 2 cd_4]).toArray;refine Ru.hd hK (HSs.out _ (bE)) (fun hHeld=> ?_);clear hK K;refine Ru.tk4 13 (.bool q1) hHeld ?_;refine Ru.tk4 14 (.int .i64 0) hHeld ?_;refine Ru.bI (by kernel_rfl) ?_;go_wp2_with fail
       go_meet;exact⟨_,_,_,_,_,_,_,rfl,rfl,rfl,nE,Ud.mF n_4 (fun z q=>by simp at q) sa_4 om0 (Ud.gp _ (ws.heap.size) ([.slice gv_4 2 gc_4, .slice gl_4 2 cl_4, .slice gd_4 2 cd_4]).toArray),Ud.qX n_4 (fun z q=>by simp at q) (fun q c e=>by simp at e) sb_4 om0 (Ud.gp _ (ws.heap.size) ([.slice gv_4 2 gc_4, .slice gl_4 2 cl_4, .slice gd_4 2 cd_4]).toArray),Ud.mF n_4 (fun z q=>by simp at q) sc_4 om0 (Ud.gp _ (ws.heap.size) ([.slice gv_4 2 gc_4, .slice gl_4 2 cl_4, .slice gd_4 2 cd_4]).toArray),bE⟩
      rename World=>w8;obtain⟨g8,gv,gc,gl,cl,gd,cd,rfl,rfl,rfl,n8,s8,t8,u8,k8⟩:=hcut;have N8:=aZ n8;have K8:=aZ k8;have C8:=aZ (KK.out w8 gv gc gl cl gd cd s8 t8 u8);clear n8 k8 s8 t8 u8 KK O2
      go_wp2_with (first
       |((with_reducible show wpList _ _ _ _ _ _);refine Ud.iG Ud.xe _ (by with_reducible rfl) g8 _ rl0 N8.out rfl (by kernel_rfl) ?_)
       |fail)
      refine(C8.out).mono ?_;rintro e w9 ⟨rfl,k9⟩;have K9:=aZ (ae K8.out k9);have NN9:Hid (∀ U,Below w9.heap.size w9 U->Calls Tryz.prog 61 #[.agg #[.slice au 6 cu, .slice av 6 cv], .agg (Ud.pv x y a b c).toArray] U fun e w'=> ∃ yo yc ro rc,e= .returned (.tuple #[.agg #[.slice yo 6 yc, .slice ro 6 rc], .bool q3, .int .i64 0])/\Below U.heap.size U w'/\El.Free U.heap.size w' (fun U=>Sl U yo 6 yc (Y k)/\Grid U ro 6 rc 6 (Q k))):=fun U b=>NN.out U (ae K9.out b);have HS9:Hid (∀ U,Below w9.heap.size w9 U->U.cell? ⟨w.heap.size+1,0,none⟩=some (.slice (some xa) n cm)/\U.cell? (xa.add (k*2))=some (.slice au 6 cu)/\U.cell? ((xa.add (k*2)).add 1)=some (.slice av 6 cv)/\ai U (w.heap.size+1+1) 67 (Ud.pv x y a b c)):=fun U b=>HSs.out U (ae K9.out b);clear k9 C8 N8 K8 NN;go_upto_region 13 with fail
      go_cut [18,19,20] (fun p o f wx=> ∃ (g:Nat) (yo:Option Addr) (yc:Nat) (po:Option Addr) (pm:Nat),p= .pointer (some ⟨g,0,none⟩)/\o= .bool q3/\f= .int .i64 0/\ai wx g 60 [.slice yo 6 yc, .slice po 6 pm]/\El.Free w9.heap.size wx (fun U=>Sl U yo 6 yc (Y k)/\Grid U po 6 pm 6 (Q k))/\Below w9.heap.size w9 wx/\w9.heap.size<=g)
      case first=>
       refine Ru.aS [] (fun w'=>w'.cell? ⟨w.heap.size+1,0,none⟩=some (.slice (some xa) n cm)/\w'.cell? (xa.add (k*2))=some (.slice au 6 cu)/\w'.cell? ((xa.add (k*2)).add 1)=some (.slice av 6 cv)/\ai w' (w.heap.size+1+1) 67 (Ud.pv x y a b c)) (by kernel_rfl) (HS9.out _ ((Vc.az _))) (fun hHeld=> ?_);refine Ru.tk4 0 (.pointer (some ⟨w.heap.size+1,0,none⟩)) hHeld ?_;refine Ru.tk4 1 (.slice (some xa) n cm) hHeld ?_;refine Ru.tk4 2 (.int .i64 (k:Int)) hHeld ?_;refine Ru.tk4 3 (.pointer (some (xa.add (k*2)))) hHeld ?_;refine Ru.tk 4 (.agg #[.slice au 6 cu, .slice av 6 cv]) rfl (ve (by kernel_rfl) _ rl0 (xa.add (k*2)) _ _ rl0 (fun w h=>⟨h.2.1,h.2.2.1⟩)) hHeld ?_;refine Ru.tk 5 (.agg (Ud.pv x y a b c).toArray) rfl (Ru.fF Ud.qm (by kernel_rfl) _ rl0 (w.heap.size+1+1) _ rl0 (fun w h=>h.2.2.2) rfl) hHeld ?_;have d_0:w9.drew.heap.size=w9.heap.size:=rfl;refine Ru.rs [6,11] ?_;refine Ru.co (fun K hK=> ?_) ?_
       · go_simp;refine(NN9.out _ (Vc.az w9)).mono ?_;rintro e v_1 ⟨yo_1,yc_1,ro_1,rc_1,rfl,k_1,fr_1⟩;have D_1:=ae (Vc.az w9) k_1;have s_1:=k_1.size;go_wp2_with fail
         refine Ru.hd hK (HS9.out _ (D_1)) (fun hHeld=> ?_);clear hK K;refine Ru.tk4 7 (.tuple #[.agg #[.slice yo_1 6 yc_1, .slice ro_1 6 rc_1], .bool q3, .int .i64 0]) hHeld ?_;refine Ru.tk4 8 (.agg #[.slice yo_1 6 yc_1, .slice ro_1 6 rc_1]) hHeld ?_;refine Ru.tk4 9 (.bool q3) hHeld ?_;refine Ru.tk4 10 (.int .i64 0) hHeld ?_;refine Ru.rd 11 (fun K hK=> ?_);go_simp;have n_2:ai (v_1.alloc (.cells [.slice none 0 0, .slice none 0 0].toArray 60)) (v_1.heap.size) 60 [.slice none 0 0, .slice none 0 0]:=aH v_1 60 [.slice none 0 0, .slice none 0 0];have a_2:=af (Below.refl _ v_1) (.cells [.slice none 0 0, .slice none 0 0].toArray 60);have g_2:=D_1.size;have e_2:(v_1.alloc (.cells [.slice none 0 0, .slice none 0 0].toArray 60)).heap.size=v_1.heap.size+1:=by simp
         have D_2:=ae D_1 a_2;have fr_2:=fr_1.keep a_2;refine Ru.hd hK (HS9.out _ (D_2)) (fun hHeld=> ?_);clear hK K;refine Ru.rd 12 (fun K hK=> ?_);refine Ru.kK Pr.isRs (by kernel_rfl) _ _ rl0 (v_1.heap.size) _ ([.slice yo_1 6 yc_1, .slice ro_1 6 rc_1]) rl0 rl0 n_2 rfl rfl (nJ _ _ _ _ _ _) ?_;have nE:=ai.row n_2 ([.slice yo_1 6 yc_1, .slice ro_1 6 rc_1]);have bE:=St.aJ D_2 (g:=v_1.heap.size) om0 ([.slice yo_1 6 yc_1, .slice ro_1 6 rc_1]).toArray;have kB:=St.aJ a_2 (g:=v_1.heap.size) (Nat.le_refl _) ([.slice yo_1 6 yc_1, .slice ro_1 6 rc_1]).toArray;refine Ru.hd hK (HS9.out _ (bE)) (fun hHeld=> ?_);clear hK K;refine Ru.tk4 13 (.bool q3) hHeld ?_;refine Ru.tk4 14 (.int .i64 0) hHeld ?_;refine Ru.bI (by kernel_rfl) ?_;go_wp2_with fail
         go_meet;exact⟨_,_,_,_,_,rfl,rfl,rfl,nE,((fr_1).keep kB).less om0,bE,om0⟩
       refine Ru.co1 (fun K hK=> ?_);go_simp;have n_3:ai (w9.drew.alloc (.cells [.slice none 0 0, .slice none 0 0].toArray 60)) (w9.heap.size) 60 [.slice none 0 0, .slice none 0 0]:=aH w9.drew 60 [.slice none 0 0, .slice none 0 0];have a_3:=af (Below.refl _ w9.drew) (.cells [.slice none 0 0, .slice none 0 0].toArray 60);have g_3:=(Vc.az w9).size;have e_3:(w9.drew.alloc (.cells [.slice none 0 0, .slice none 0 0].toArray 60)).heap.size=w9.heap.size+1:=by simp
       have q_3:(w9.alloc (.cells [.slice none 0 0, .slice none 0 0].toArray 60)).drew.heap.size=w9.heap.size+1:=by simp
       have D_3:=ae (Vc.az w9) a_3;refine Ru.hd hK (HS9.out _ (D_3)) (fun hHeld=> ?_);clear hK K;refine Ru.rd 6 (fun K hK=> ?_);go_simp;refine(NN9.out _ D_3).mono ?_;rintro e v_4 ⟨yo_4,yc_4,ro_4,rc_4,rfl,k_4,fr_4⟩;have D_4:=ae D_3 k_4;have s_4:=k_4.size;have n_4:=ai.keep n_3 k_4;go_wp2_with fail
       refine Ru.hd hK (HS9.out _ (D_4)) (fun hHeld=> ?_);clear hK K;refine Ru.tk4 7 (.tuple #[.agg #[.slice yo_4 6 yc_4, .slice ro_4 6 rc_4], .bool q3, .int .i64 0]) hHeld ?_;refine Ru.tk4 8 (.agg #[.slice yo_4 6 yc_4, .slice ro_4 6 rc_4]) hHeld ?_;refine Ru.tk4 9 (.bool q3) hHeld ?_;refine Ru.tk4 10 (.int .i64 0) hHeld ?_;refine Ru.rd 12 (fun K hK=> ?_);refine Ru.kK Pr.isRs (by kernel_rfl) _ _ rl0 (w9.heap.size) _ ([.slice yo_4 6 yc_4, .slice ro_4 6 rc_4]) rl0 rl0 n_4 rfl rfl (nJ _ _ _ _ _ _) ?_;have nE:=ai.row n_4 ([.slice yo_4 6 yc_4, .slice ro_4 6 rc_4]);have bE:=St.aJ D_4 (g:=w9.heap.size) om0 ([.slice yo_4 6 yc_4, .slice ro_4 6 rc_4]).toArray;refine Ru.hd hK (HS9.out _ (bE)) (fun hHeld=> ?_);clear hK K;refine Ru.tk4 13 (.bool q3) hHeld ?_;refine Ru.tk4 14 (.int .i64 0) hHeld ?_;refine Ru.bI (by kernel_rfl) ?_;go_wp2_with fail
       go_meet;exact⟨_,_,_,_,_,rfl,rfl,rfl,nE,((fr_4).row (g:=w9.heap.size) om0 ([.slice yo_4 6 yc_4, .slice ro_4 6 rc_4]).toArray).less om0,bE,om0⟩
      rename World=>wA;obtain⟨gA,yo,yc,po,pm,rfl,rfl,rfl,nA,fA,kA,hgA⟩:=hcut;have KA:=ae K9.out kA;have zA:=Z0.out.keep KA;have nlA:=ai.keep NL.out KA;have bA:=BL.out.then KA;have cA:wA.cell? ⟨gs,0,none⟩=some vX:=ai.cell nlA (k:=0) rfl rfl;have lw9:=K9.out.size;have HR:Hid (∀ U,El.Rest (El.Vx o2 vX u10) wA U->StR Y Q k [.slice yo 6 yc, .slice po 6 pm] U):=fun U r=>⟨_,_,_,_,rfl,Z0.out.free (fA.less lw9) r⟩;have NA:=aZ nA;clear HSs HS9 NN9 K9 Z0 NL BL nA fA kA KA
      go_wp2_with (first
       |((with_reducible show wpList _ _ _ _ _ _);refine Ud.iG Pr.isRs _ (by with_reducible rfl) gA _ rl0 NA.out rfl (by kernel_rfl) ?_)
       |(at_builtin;refine El.pushV rl0 _ _ 26 60 2 48 (.agg #[.slice none 0 0, .slice none 0 0]) rl0 Tryz.underlying26 XZ rfl (by decide) (by decide) o2 vX u10 k k _ _ rl0 zA om0 [.slice yo 6 yc, .slice po 6 pm] rfl (nJ _ _ _ _ _ _) HR.out rl0 ?_)
       |fail)
      intro v' wB zB bB;obtain⟨lo',cm',hv',_⟩:=zB.form;subst hv';have nB:=Ld.aT nlA bB om0;have bAB:=bA.trans (bB.mono fun q e=>Or.inr e);clear zA nlA bA cA HR NA bB
      go_wp2_with (first
       |(at_builtin;refine El.pushU rl0 _ _ rl0 o2 (.slice lo' (k+1) cm') u10 (k+1) k nu _ rl0 zB om0 nk HNU.out rl0 ?_)
       |fail)
      intro u' wC zC bC;have nC:=Ld.aT nB bC om0;have bAC:=bAB.trans (bC.mono fun q e=>Or.inr e);have cC:wC.cell? ⟨gs,0,none⟩=some vX:=ai.cell nC (k:=0) rfl rfl;have fC:=ai.free nC 0;have nD:=ai.set nC 0 (.slice lo' (k+1) cm');have bD:=bAC.set (p:=⟨gs,0,none⟩) (.slice lo' (k+1) cm') (Or.inl rfl);have zD:=zC.put (g:=gs) l6 ((Ld.But.refl (· =gs) wC).set (p:=⟨gs,0,none⟩) (.slice lo' (k+1) cm') rfl);clear zB nB bAB zC bC bAC HNU
      have hokk: ∀ j,j<k+1->ok j:=fun j hj=>by
       by_cases e:j=k
       · rw [e];exact HOK.out
       · exact HJ.out j om0
      have HOKK:=aZ hokk;obtain⟨qn,hqn⟩: ∃ q,q=dN G k:=⟨_,rfl⟩;rw [← hqn] at A1;rw [← hqn];clear hqn HOK HJ hokk;cases qn with
      |true=>
       go_wp2;go_roundw
       case rel=>exact⟨k+1,_,om0,by go_num,by rw [A1.out];rfl,HOKK.out,nD,zD,bD⟩
       case measure=>simp [intOf];omega
      |false=>
       cases q1 with
       |true=>
        go_wp2;go_roundw
        case rel=>exact⟨k+1,_,om0,by go_num,by rw [A1.out];rfl,HOKK.out,nD,zD,bD⟩
        case measure=>simp [intOf];omega
       |false=>
        cases q2
        all_goals go_wp2
        all_goals go_roundw
        all_goals first
         |(simp [intOf];omega)
         |exact⟨k+1,_,om0,by go_num,by rw [A1.out];rfl,HOKK.out,nD,zD,bD⟩
    · have O2:Hid (∀ U,Below ws.heap.size ws U->Calls Tryz.prog 59 #[.agg #[.slice au 6 cu, .slice av 6 cv], .agg (Ud.pv x y a b c).toArray] U fun e w'=>e= .returned (.tuple #[.agg #[.slice none 0 0, .slice none 0 0, .slice none 0 0], .bool false, .int .i64 ec])/\Below U.heap.size U w'):=fun U b=>by
       refine(O1.out U au cu av cv (SX.out.keep b) (GP.out.keep b)).mono ?_;rintro e w' ⟨⟨_,h⟩|⟨h,_⟩,h4⟩
       · exact⟨h,h4⟩
       · exact absurd h hok
      have HBad:Hid (¬All ok n):=fun h=>hok (h k hkn);clear O1 hok SX GP KK NN;go_upto_region 9 with fail
      go_cut [13,14,15] (fun p o f wx=>f= .int .i64 ec/\Below ws.heap.size ws wx)
      case first=>
       refine Ru.aS [] (fun w'=>w'.cell? ⟨w.heap.size+1,0,none⟩=some (.slice (some xa) n cm)/\w'.cell? (xa.add (k*2))=some (.slice au 6 cu)/\w'.cell? ((xa.add (k*2)).add 1)=some (.slice av 6 cv)/\ai w' (w.heap.size+1+1) 67 (Ud.pv x y a b c)) (by kernel_rfl) (HSs.out _ ((Vc.az _))) (fun hHeld=> ?_);refine Ru.tk4 0 (.pointer (some ⟨w.heap.size+1,0,none⟩)) hHeld ?_;refine Ru.tk4 1 (.slice (some xa) n cm) hHeld ?_;refine Ru.tk4 2 (.int .i64 (k:Int)) hHeld ?_;refine Ru.tk4 3 (.pointer (some (xa.add (k*2)))) hHeld ?_;refine Ru.tk 4 (.agg #[.slice au 6 cu, .slice av 6 cv]) rfl (ve (by kernel_rfl) _ rl0 (xa.add (k*2)) _ _ rl0 (fun w h=>⟨h.2.1,h.2.2.1⟩)) hHeld ?_;refine Ru.tk 5 (.agg (Ud.pv x y a b c).toArray) rfl (Ru.fF Ud.qm (by kernel_rfl) _ rl0 (w.heap.size+1+1) _ rl0 (fun w h=>h.2.2.2) rfl) hHeld ?_;have d_0:ws.drew.heap.size=ws.heap.size:=rfl;refine Ru.rs [6,11] ?_;refine Ru.co (fun K hK=> ?_) ?_
       · go_simp;refine(O2.out _ (Vc.az ws)).mono ?_;rintro e v_1 ⟨rfl,k_1⟩;have D_1:=ae (Vc.az ws) k_1;have s_1:=k_1.size;go_wp2_with fail
         refine Ru.hd hK (HSs.out _ (D_1)) (fun hHeld=> ?_);clear hK K;refine Ru.tk4 7 (.tuple #[.agg #[.slice none 0 0, .slice none 0 0, .slice none 0 0], .bool false, .int .i64 ec]) hHeld ?_;refine Ru.tk4 8 (.agg #[.slice none 0 0, .slice none 0 0, .slice none 0 0]) hHeld ?_;refine Ru.tk4 9 (.bool false) hHeld ?_;refine Ru.tk4 10 (.int .i64 ec) hHeld ?_;refine Ru.rd 11 (fun K hK=> ?_);go_simp;have n_2:ai (v_1.alloc (.cells [.slice none 0 0, .slice none 0 0, .slice none 0 0].toArray 126)) (v_1.heap.size) 126 [.slice none 0 0, .slice none 0 0, .slice none 0 0]:=aH v_1 126 [.slice none 0 0, .slice none 0 0, .slice none 0 0];have a_2:=af (Below.refl _ v_1) (.cells [.slice none 0 0, .slice none 0 0, .slice none 0 0].toArray 126);have g_2:=D_1.size;have e_2:(v_1.alloc (.cells [.slice none 0 0, .slice none 0 0, .slice none 0 0].toArray 126)).heap.size=v_1.heap.size+1:=by simp
         have D_2:=ae D_1 a_2;refine Ru.hd hK (HSs.out _ (D_2)) (fun hHeld=> ?_);clear hK K;refine Ru.rd 12 (fun K hK=> ?_);refine Ru.kK Ud.xe (by kernel_rfl) _ _ rl0 (v_1.heap.size) _ ([.slice none 0 0, .slice none 0 0, .slice none 0 0]) rl0 rl0 n_2 rfl rfl (by intro v hv;simp only [List.mem_cons,List.not_mem_nil,or_false] at hv;rcases hv with rfl|rfl|rfl<;>rfl) ?_
         have nE:=ai.row n_2 ([.slice none 0 0, .slice none 0 0, .slice none 0 0]);have bE:=St.aJ D_2 (g:=v_1.heap.size) om0 ([.slice none 0 0, .slice none 0 0, .slice none 0 0]).toArray;have kB:=St.aJ a_2 (g:=v_1.heap.size) (Nat.le_refl _) ([.slice none 0 0, .slice none 0 0, .slice none 0 0]).toArray;refine Ru.hd hK (HSs.out _ (bE)) (fun hHeld=> ?_);clear hK K;refine Ru.tk4 13 (.bool false) hHeld ?_;refine Ru.tk4 14 (.int .i64 ec) hHeld ?_;refine Ru.bI (by kernel_rfl) ?_;go_wp2_with fail
         go_meet;exact⟨rfl,bE⟩
       refine Ru.co1 (fun K hK=> ?_);go_simp;have n_3:ai (ws.drew.alloc (.cells [.slice none 0 0, .slice none 0 0, .slice none 0 0].toArray 126)) (ws.heap.size) 126 [.slice none 0 0, .slice none 0 0, .slice none 0 0]:=aH ws.drew 126 [.slice none 0 0, .slice none 0 0, .slice none 0 0];have a_3:=af (Below.refl _ ws.drew) (.cells [.slice none 0 0, .slice none 0 0, .slice none 0 0].toArray 126);have g_3:=(Vc.az ws).size;have e_3:(ws.drew.alloc (.cells [.slice none 0 0, .slice none 0 0, .slice none 0 0].toArray 126)).heap.size=ws.heap.size+1:=by simp
       have q_3:(ws.alloc (.cells [.slice none 0 0, .slice none 0 0, .slice none 0 0].toArray 126)).drew.heap.size=ws.heap.size+1:=by simp
       have D_3:=ae (Vc.az ws) a_3;refine Ru.hd hK (HSs.out _ (D_3)) (fun hHeld=> ?_);clear hK K;refine Ru.rd 6 (fun K hK=> ?_);go_simp;refine(O2.out _ D_3).mono ?_;rintro e v_4 ⟨rfl,k_4⟩;have D_4:=ae D_3 k_4;have s_4:=k_4.size;have n_4:=ai.keep n_3 k_4;go_wp2_with fail
       refine Ru.hd hK (HSs.out _ (D_4)) (fun hHeld=> ?_);clear hK K;refine Ru.tk4 7 (.tuple #[.agg #[.slice none 0 0, .slice none 0 0, .slice none 0 0], .bool false, .int .i64 ec]) hHeld ?_;refine Ru.tk4 8 (.agg #[.slice none 0 0, .slice none 0 0, .slice none 0 0]) hHeld ?_;refine Ru.tk4 9 (.bool false) hHeld ?_;refine Ru.tk4 10 (.int .i64 ec) hHeld ?_;refine Ru.rd 12 (fun K hK=> ?_);refine Ru.kK Ud.xe (by kernel_rfl) _ _ rl0 (ws.heap.size) _ ([.slice none 0 0, .slice none 0 0, .slice none 0 0]) rl0 rl0 n_4 rfl rfl (by intro v hv;simp only [List.mem_cons,List.not_mem_nil,or_false] at hv;rcases hv with rfl|rfl|rfl<;>rfl) ?_
       have nE:=ai.row n_4 ([.slice none 0 0, .slice none 0 0, .slice none 0 0]);have bE:=St.aJ D_4 (g:=ws.heap.size) om0 ([.slice none 0 0, .slice none 0 0, .slice none 0 0]).toArray;refine Ru.hd hK (HSs.out _ (bE)) (fun hHeld=> ?_);clear hK K;refine Ru.tk4 13 (.bool false) hHeld ?_;refine Ru.tk4 14 (.int .i64 ec) hHeld ?_;refine Ru.bI (by kernel_rfl) ?_;go_wp2_with fail
       go_meet;exact⟨rfl,bE⟩
      rename World=>w8;obtain⟨rfl,k8⟩:=hcut;have r1:=ai.keep R3.out k8;have B1:=ae KLh.out k8;clear HSs O2 k8 Z0 NL BL;have rR:=ai.row r1 [.slice none 0 0, .slice none 0 0];have bR:=St.aJ B1 (g:=w.heap.size+1+1+1) om0 [.slice none 0 0, .slice none 0 0].toArray
      go_wp2_with (first
       |((with_reducible show wpList _ _ _ _ _ _);refine Ud.Eb xw _ _ (by with_reducible rfl) _ _ [.slice none 0 0, .slice none 0 0] rl0 rl0 (by with_reducible exact r1) rfl rfl (nJ _ _ _ _ _ _) rfl ?_)
       |fail)
      exact bodyPost_ret (dJ xw Tryz.results22 _ _ (w.heap.size+1+1+1) [.slice none 0 0, .slice none 0 0] rfl rR rfl) rfl (Or.inl ⟨HBad.out,rfl,bR⟩)
  · obtain rfl:n=k:=om0;have E1:=HE.out _ bl;have KW:=ae K3.out E1;have KL:=ae HB0.out KW;obtain⟨uo,uc,rfl,hu⟩:=zl.sl;have d0:ws.cell? ⟨w.heap.size+1,0,none⟩=some (.slice lo n cm):=ai.cell (ai.keep H1.out KW) (k:=0) rfl rfl;have d1:ws.cell? ⟨w.heap.size+1,1,none⟩=some (.slice ho n hc):=ai.cell (ai.keep H1.out KW) (k:=1) rfl rfl;have d2:ws.cell? ⟨w.heap.size,2,none⟩=some (.int .i64 fl):=ai.cell (ai.keep H0.out KW) (k:=2) rfl rfl;have D9:=aZ (HWt.out ws uo uc KL hu);have HJ:Hid (All ok n):=hj;have ZL:=aZ zl;have NL:=aZ nl;have R3:=aZ (ai.keep H3.out KW);have KLh:=aZ KL;clear zl nl bl hu E1 KW KL hj;go_wp2_with fail
    refine(D9.out).mono ?_;rintro e w8 ⟨vo,vc,rfl,s8,k8⟩;have n8:=ai.keep NL.out k8;have z8:=ZL.out.keep k8;have r8:=ai.keep R3.out k8;have B8:=ae KLh.out k8;have c8:w8.cell? ⟨gs,1,none⟩=some (.slice none 0 0):=ai.cell n8 (k:=1) rfl rfl;have f8:=ai.free n8 1;have n9:=ai.set n8 1 (.slice vo n vc);have b9:=(Ld.But.refl (· =gs) w8).set (p:=⟨gs,1,none⟩) (.slice vo n vc) rfl;have z9:=z8.put (g:=gs) l6 b9;have lr:w.heap.size+1+1+1≠gs:=om0;have r9:=ai.other r8 (p:=⟨gs,1,none⟩) (.slice vo n vc) lr;have s9:=sl_im n8 z8.form s8 b9;have B9:=B8.trans (St.dB (x:=⟨gs,1,none⟩) B8.size (by show w.heap.size<=gs;omega) (.slice vo n vc));obtain⟨w9,hw9⟩: ∃ W,W=w8.setCell ⟨gs,1,none⟩ (.slice vo n vc):=⟨_,rfl⟩;rw [← hw9] at n9 z9 r9 s9 B9;have HW9:=aZ hw9;obtain⟨lo',cm',rfl,hL⟩:=aa4 z9;have rR:=ai.row r9 [.slice lo' n cm', .slice vo n vc];have bR:=St.aJ B9 (g:=w.heap.size+1+1+1) om0 [.slice lo' n cm', .slice vo n vc].toArray;have hRS:=Ud.gp w9 (w.heap.size+1+1+1) ([.slice lo' n cm', .slice vo n vc]:List Value).toArray;have LR:=aZ (UC r9 hL hRS);have ZR:=aZ (En r9 s9 hRS);have N9:=aZ n9;clear hw9 hL n8 z8 r8 n9 z9 s8 s9 hRS k8 D9 ZL NL R3 b9;cases hq:dN G n
    all_goals go_wp2_with (first
     |(rw [← HW9.out])
     |((with_reducible show wpList _ _ _ _ _ _);refine Ud.iG xw _ (by with_reducible rfl) gs _ rl0 N9.out rfl (by kernel_rfl) ?_)
     |((with_reducible show wpList _ _ _ _ _ _);refine Ud.Eb xw _ _ (by with_reducible rfl) _ _ [.slice lo' n cm', .slice vo n vc] rl0 rl0 (by with_reducible exact r9) rfl rfl (nJ _ _ _ _ _ _) rfl ?_)
     |fail)
    all_goals exact bodyPost_ret (dJ xw Tryz.results22 _ _ (w.heap.size+1+1+1) _ rfl rR rfl) rfl (Or.inr ⟨HJ.out,_,_,_,_,by rw [hq];rfl,LR.out,ZR.out,bR⟩)
end
section
open Go.RowKit Vc St Mt Cn Mx Im El
attribute [local go_sem ↓] Go.wp_at_zero Go.wp_at_succ
namespace Im
theorem UD{t:TypeId}{B:Nat}{w0 w:World}{v a b:Value}{n:Nat}(h:Els t 2 B w0 w v n (fun _ cs _=>cs= [a,b])): ∃ lo cm,v= .slice lo n cm/\Dst w lo n cm (fun _=>a) (fun _=>b):=by
 rcases Nat.eq_zero_or_pos n with e|e
 · subst e;obtain⟨ao,ca,rfl,h1,h2⟩:=h.form;exact⟨ao,ca,rfl,h1,h2,fun k hk=>by omega⟩
 · obtain⟨g,cap,S,rfl,h1,h2,_,_,h3,_⟩:=h.at e;refine⟨_,_,rfl,h1,h2,fun k hk=>⟨_,rfl, ?_⟩⟩;have c:=(h3 k hk).2.2;rw [(h3 k hk).2.1] at c;have c0:=c 0 a rfl;have c1:=c 1 b rfl;rw [Addr.add_lit,Addr.add_lit,Nat.zero_add];exact⟨c0,c1⟩
end Im
theorem IQ(mo ro xo po:Option Addr)(n mc q rc xc pc:Nat)(fl:Int)(X:Nat->Int)(P:Nat->Nat->Int)(w:World)(h1:1<=n)(h4:n<=4)(hc:n<=mc)(hm:mc<=9223372036854775807)(hX:Sl w xo 6 xc X)(hP:Grid w po 6 pc 6 P):
 Calls Tryz.prog 26 #[.agg #[.slice mo n mc, .slice ro q rc, .int .i64 fl], .agg #[.slice xo 6 xc, .slice po 6 pc]] w fun e w'=> ∃ vo vm no nc,e= .returned (.agg #[.slice vo n vm, .slice no n nc])/\Dls w' vo n vm (fun _=>X) (fun _=>P)/\Sl w' no n nc (sh 1073741824 (fun _=>1) n)/\Below w.heap.size w w':=by
 have m0:=((aH w 25 [.slice mo n mc, .slice ro q rc, .int .i64 fl]).alloc (.cells [.slice xo 6 xc, .slice po 6 pc].toArray 60)).alloc (.cells [.slice none 0 0, .slice none 0 0].toArray 29);have m1:=(bU w (.cells [.slice mo n mc, .slice ro q rc, .int .i64 fl].toArray 25) 60 [.slice xo 6 xc, .slice po 6 pc]).alloc (.cells [.slice none 0 0, .slice none 0 0].toArray 29);have m2:=dH w (.cells [.slice mo n mc, .slice ro q rc, .int .i64 fl].toArray 25) (.cells [.slice xo 6 xc, .slice po 6 pc].toArray 60) 29 [.slice none 0 0, .slice none 0 0];have B0:Below w.heap.size w (((w.alloc (.cells [.slice mo n mc, .slice ro q rc, .int .i64 fl].toArray 25)).alloc (.cells [.slice xo 6 xc, .slice po 6 pc].toArray 60)).alloc (.cells [.slice none 0 0, .slice none 0 0].toArray 29)):=af (af (af (Below.refl _ _) _) _) _;obtain⟨W,hW⟩: ∃ W,W=((w.alloc (.cells [.slice mo n mc, .slice ro q rc, .int .i64 fl].toArray 25)).alloc (.cells [.slice xo 6 xc, .slice po 6 pc].toArray 60)).alloc (.cells [.slice none 0 0, .slice none 0 0].toArray 29):=⟨_,rfl⟩;rw [← hW] at m0 m1 m2 B0;have HW:=aZ hW;have H0:=aZ m0;have H1:=aZ m1;have H2:=aZ m2;have HB0:=aZ B0;have D1:=aZ (fun W=>aaq n W h1 h4);have HX:=aZ hX;have HP:=aZ hP;have d0:W.cell? ⟨w.heap.size,0,none⟩=some (.slice mo n mc):=ai.cell m0 (k:=0) rfl rfl;clear hW m0 m1 m2 B0 hX hP;go_enter Tryz.func26,Tryz.ntmps26
 go_wp2_with (first|(rw [← HW.out])|fail)
 refine(D1.out _).mono ?_;rintro e w3 ⟨v3,rfl,ow⟩;obtain⟨no,nc,rfl,s3⟩:=ow.sl;have K3:=aZ ow.below;have S3:=aZ s3;clear ow s3 D1 HW d0
 go_wp2_with (first
  |((with_reducible show wpList _ _ _ _ _ _);refine St.aF xw rfl _ _ rl0 _ [.slice none 0 0, .slice none 0 0] [.slice none 0 0, .slice no n nc] rl0 rl0 rfl rfl (nJ _ _ _ _ _ _) ?_;intro w6 n6 k6)
  |fail)
 have l6:=ai.lt n6;obtain⟨gs,hgs⟩: ∃ g,g=w3.heap.size:=⟨_,rfl⟩;rw [← hgs] at n6 l6 ⊢;obtain⟨o2,ho2⟩: ∃ o,o=w6.heap.size:=⟨_,rfl⟩;rw [← ho2] at l6;have z6:El.Lsn 60 2 o2 w6 (.slice none 0 0) 0 (fun _ cs _=>cs= [.slice xo 6 xc, .slice po 6 pc]) (.slice none 0 0) 0 (fun _=>0):=El.Lsn.nil om0 _ _ _ _;have HE:Hid (∀ V,Ld.But (fun q=>q=gs\/o2<=q) w6 V->Below w3.heap.size w3 V):=fun V k=>k.below k6 (by have:=k6.size;omega) (by rintro q (e|e)<;>omega)
 have HGW:w.heap.size+1+1<gs:=by have:=K3.out.size;have:=ai.lt H2.out;omega
 clear k6 hgs ho2;go_loopw [6] (fun i ws=> ∃ (k:Nat) (vX:Value),k<=n/\i= .int .i64 (k:Int)/\ai ws gs 29 [vX, .slice no n nc]/\El.Lsn 60 2 o2 ws vX k (fun _ cs _=>cs= [.slice xo 6 xc, .slice po 6 pc]) (.slice none 0 0) 0 (fun _=>0)/\Ld.But (fun q=>q=gs\/o2<=q) w6 ws) (fun i _=>n- (intOf i).toNat)
 case atStart=>exact⟨0,_,om0,rfl,n6,z6,Ld.But.refl _ _⟩
 case round=>
  rename World=>ws;obtain⟨k,vX,hk,rfl,nl,zl,bl⟩:=hrel;have E1:=HE.out _ bl;have KW:=ae K3.out E1;have d0:ws.cell? ⟨w.heap.size,0,none⟩=some (.slice mo n mc):=ai.cell (ai.keep H0.out KW) (k:=0) rfl rfl;by_cases hkn:k<n
  ·have kn:(k:Int)<n:=om0;have c8:ws.cell? ⟨gs,0,none⟩=some vX:=ai.cell nl (k:=0) rfl rfl;have B1:=aZ (ai.keep H1.out KW);have Z0:=aZ zl;have NL:=aZ nl;have BL:=aZ bl;clear zl nl bl E1 KW
   go_wp2_with (first
    |((with_reducible show wpList _ _ _ _ _ _);refine Ud.iG Pr.isRs _ (by with_reducible rfl) (w.heap.size+1) _ rl0 B1.out rfl (by kernel_rfl) ?_)
    |(at_builtin;refine El.pushV rl0 _ _ 26 60 2 48 (.agg #[.slice none 0 0, .slice none 0 0]) rl0 Tryz.underlying26 XZ rfl (by decide) (by decide) o2 vX _ k 0 _ _ rl0 Z0.out om0 [.slice xo 6 xc, .slice po 6 pc] rfl (nJ _ _ _ _ _ _) (fun _ _=>rfl) rl0 ?_)
    |fail)
   intro v' w9 z9 b9;obtain⟨lo',cm',hv',_⟩:=z9.form;subst hv';have n9:=Ld.aT NL.out b9 om0;have c9:w9.cell? ⟨gs,0,none⟩=some vX:=ai.cell n9 (k:=0) rfl rfl;have f9:=ai.free n9 0;have n10:=ai.set n9 0 (.slice lo' (k+1) cm');have b10:=(BL.out.trans (b9.mono fun q e=>Or.inr e)).set (p:=⟨gs,0,none⟩) (.slice lo' (k+1) cm') (Or.inl rfl);have z10:=z9.put (g:=gs) l6 ((Ld.But.refl (· =gs) w9).set (p:=⟨gs,0,none⟩) (.slice lo' (k+1) cm') rfl);clear Z0 NL BL c8 z9 b9 n9 d0 B1;go_wp2;go_roundw
   case rel=>exact⟨k+1,_,om0,by go_num,n10,z10,b10⟩
   case measure=>simp [intOf];omega
  ·obtain rfl:n=k:=om0;obtain⟨lo',cm',rfl,hL⟩:=UD zl.els;have r1:=ai.keep H2.out KW;have rR:=ai.row r1 [.slice lo' n cm', .slice no n nc];have BR:=ae HB0.out KW;have bR:=St.aJ BR (g:=w.heap.size+1+1) om0 [.slice lo' n cm', .slice no n nc].toArray;have hzR:=S3.out.keep E1;have hD:Dls ws lo' n cm' (fun _=>X) (fun _=>P):=⟨fun _=>xo,fun _=>po,fun _=>xc,fun _=>pc,hL,fun k hk=>⟨HX.out.keep BR,HP.out.keep BR⟩⟩;have hRS:=Ud.gp ws (w.heap.size+1+1) ([.slice lo' n cm', .slice no n nc]:List Value).toArray;have LR:=aZ (UC r1 hD hRS);have ZR:=aZ (En r1 hzR hRS);have NL:=aZ nl;clear hL zl bl E1 KW hzR hRS nl hD
   go_wp2_with (first
    |((with_reducible show wpList _ _ _ _ _ _);refine Ud.iG xw _ (by with_reducible rfl) gs _ rl0 NL.out rfl (by kernel_rfl) ?_)
    |((with_reducible show wpList _ _ _ _ _ _);refine Ud.Eb xw _ _ (by with_reducible rfl) _ _ [.slice lo' n cm', .slice no n nc] rl0 rl0 (by with_reducible exact r1) rfl rfl (nJ _ _ _ _ _ _) rfl ?_)
    |fail)
   exact bodyPost_ret (iV xw Tryz.results26 _ _ (w.heap.size+1+1) _ rfl rR rfl) rfl ⟨_,_,_,_,rfl,LR.out,ZR.out,bR⟩
end
end Go.Proofs.YtcefcokpjbebhaaGreatDoor
