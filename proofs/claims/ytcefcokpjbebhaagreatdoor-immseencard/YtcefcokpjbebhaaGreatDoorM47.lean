/-
  Layer 15's laws: lists of states that came in, handed on, held against each other (sized, giveStates, areStates).
-/
import Derived.Test.YtcefcokpjbebhaaGreatDoorPdL
import Derived.Test.YtcefcokpjbebhaaGreatDoorM29
import Derived.Test.YtcefcokpjbebhaaGreatDoorM36
set_option linter.unusedSimpArgs false
set_option linter.unusedVariables false
set_option maxHeartbeats 2000000
set_option maxRecDepth 20000
namespace Go.Proofs.YtcefcokpjbebhaaGreatDoor
section
open Go.RowKit Vc Mx Pd St Mt
attribute [local go_sem ↓] Go.wp_at_zero Go.wp_at_succ
namespace Mx
theorem lX{p:Prop}(h:p):Hid p:=h
structure Raw where
 xo:Option Addr
 xn:Nat
 xc:Nat
 X:Nat->Int
 po:Option Addr
 pn:Nat
 pc:Nat
 A:Nat->Option Addr
 K:Nat->Nat
 C:Nat->Nat
 Z:Nat->Nat->Int
structure Raw.Ok(w:World)(d:Raw):Prop where
 x:Sl w d.xo d.xn d.xc d.X
 xb:B64 d.X
 p:Sls w d.po d.pn d.pc d.A d.K d.C
 q: ∀ r,r<d.pn->Sl w (d.A r) (d.K r) (d.C r) (d.Z r)/\B64 (d.Z r)
theorem OZ{W:World}{cs:List Value}(h:Lie.L W 26 cs):
 ∃ (lo:Option Addr) (n cm:Nat) (D:Nat->Raw),cs= [.slice lo n cm]/\Dst W lo n cm (fun k=> .slice (D k).xo (D k).xn (D k).xc) (fun k=> .slice (D k).po (D k).pn (D k).pc)/\ ∀ k,k<n->(D k).Ok W:=by
 have d0:Raw:=⟨none,0,0,fun _=>0,none,0,0,fun _=>none,fun _=>0,fun _=>0,fun _ _=>0⟩;rcases Lie.Np Tryz.underlying26 h with rfl|⟨a,len,cap,rfl,hl,hm,hel⟩
 · exact⟨none,0,0,fun _=>d0,rfl,⟨Nat.le_refl _,om0,fun k hk=>by omega⟩,fun k hk=>by omega⟩
 · have c2:Tryz.prog.cellsOf 60=2:=by kernel_rfl
   have key: ∀ i,i<cap-> ∃ d:Raw,W.cell? (a.add (i*2))=some (.slice d.xo d.xn d.xc)/\W.cell? ((a.add (i*2)).add 1)=some (.slice d.po d.pn d.pc)/\d.Ok W:=fun i hi=>by
    obtain⟨es,h1,h2⟩:=hel i hi;obtain⟨xo,m,xc,X,po,n,pc,A,K,C,Z,rfl,sX,bX,sP,qP⟩:=OY h2;rw [c2] at h1;have h3:=(World.cells?_some h1).2.2 0 om0;have h4:=(World.cells?_some h1).2.2 1 om0;rw [Lie.xu] at h3;exact⟨⟨xo,m,xc,X,po,n,pc,A,K,C,Z⟩,h3,h4,sX,bX,sP,qP⟩
   refine⟨some a,len,cap,fun i=>if h:i<cap then(key i h).choose else d0,rfl,⟨hl,hm,fun k hk=>⟨a,rfl, ?_⟩⟩,fun k hk=> ?_⟩
   · have hk':k<cap:=om0;simp only [dif_pos hk'];exact⟨(key k hk').choose_spec.1,(key k hk').choose_spec.2.1⟩
   · have hk':k<cap:=om0;simp only [dif_pos hk'];exact(key k hk').choose_spec.2.2
theorem ve{ops:Array Oper}{S:World->Prop}{o:Oper}{a:Act}(hw:Region.wanted o (yielded ops a.tmps)=true)(x:Operand)(ho:o.op= .load 60 x)(ad:Addr)(u v:Value)(hx:a.eval x= .pointer (some ad))
 (hS: ∀ w,S w->w.cell? ad=some u/\w.cell? (ad.add 1)=some v):YieldsIf Tryz.prog ops S o (.agg #[u,v]) a:=
 .inl ⟨hw,fun w h=>by
  unfold execOp
  simp only [ho,hx,Sem.run_bind,rH w ad u v (hS w h).1 (hS w h).2,Result.andThen_ok,Sem.run_pure]⟩
theorem WS{ops:Array Oper}{S:World->Prop}{o:Oper}{a:Act}{t:TypeId}{n:Nat}(I:Is t n)(hw:Region.wanted o (yielded ops a.tmps)=true)(x:Operand)(ho:o.op= .load t x)
 (b p:Nat) (cs:List Value) (hx:a.eval x= .pointer (some ⟨b,p,none⟩)) (hS: ∀ w,S w->w.rangeAt b p cs) (hl:cs.length=n):YieldsIf Tryz.prog ops S o (.agg cs.toArray) a:=by
 obtain⟨d,hd,hr⟩:=I.row;exact yieldsIf_load_mid hw _ x ho b p hx cs d hS hd hr (by rw [I.size,hl])
end Mx
theorem IP(lo:Option Addr)(n cm:Nat)(xo:Nat->Option Addr)(ln xc:Nat->Nat)(V:Nat->Value)(b:Bool)(w:World)(hl:Dst w lo n cm (fun k=> .slice (xo k) (ln k) (xc k)) V)(hln: ∀ k,k<n->ln k<=9223372036854775807)(hb:b=true↔n<=10/\ ∀ k,k<n->ln k=6):
 Calls Tryz.prog 6 #[.slice lo n cm] w fun e w'=>e= .returned (.bool b)/\Below w.heap.size w w':=by
 have l1:=hl.le;have l2:=hl.cap;obtain⟨x,hlo,hcl⟩:=hl.get;have HLO:=lX hlo;have HCL:=lX hcl;have HLN:=lX hln;have HB:=lX hb;have NO:=lX (fun(q:Prop) (h1:b=true->q) (h2: ¬q)=>(by cases b<;>simp_all:b=false))
 clear hl hlo hcl hln hb;go_enter Tryz.func6,Tryz.ntmps6
 go_wp2;go_loopw [3] (fun i wr=> ∃ k:Nat,k<=n/\i= .int .i64 (k:Int)/\(∀ j,j<k->ln j=6)/\Below w.heap.size w wr) (fun i _=>n- (intOf i).toNat)
 case atStart=>exact⟨0,om0,rfl,fun j hj=>by omega,Below.refl _ _⟩
 case round=>
  rename World=>wr;obtain⟨k,hk,rfl,hj,kb⟩:=hrel;by_cases hkn:k<n
  · have c0:=ah kb (HCL.out k hkn).1;have bl:=HLN.out k hkn;obtain rfl:=HLO.out om0;have HJ:=lX hj;have kn:(k:Int)<n:=om0;have HBad:=lX (fun(h: ¬ln k=6)=>NO.out _ HB.out.1 fun q=>h (q.2 k hkn))
    have HGood:=lX (fun(h:ln k=6) j (hj':j<k+1)=>(by
     by_cases e:j=k
     · rw [e];exact h
     · exact HJ.out j om0:ln j=6))
    obtain⟨u,hu⟩: ∃ q,q=xo k:=⟨_,rfl⟩;obtain⟨l,hl⟩: ∃ q,q=ln k:=⟨_,rfl⟩;obtain⟨cc,hcc⟩: ∃ q,q=xc k:=⟨_,rfl⟩;rw [← hu,← hl,← hcc] at c0;rw [← hl] at HBad HGood bl;clear hu hl hcc hj;by_cases e:l=6
    · subst e;have G:=lX (HGood.out rfl);clear HBad HGood;go_wp2;go_roundw
      case rel=>exact⟨k+1,om0,by go_num,G.out,kb⟩
      case measure=>simp [intOf];omega
    · have hbf:=HBad.out e;subst hbf;have e': ¬(l:Int)=6:=om0;clear HBad HGood;go_wp2;go_ret;exact⟨rfl,kb⟩
  · obtain rfl:n=k:=om0;have HJ:=lX hj;clear hj;by_cases e:n<=10
    · have hbt:b=true:=HB.out.2 ⟨e,HJ.out⟩;subst hbt;have e':(n:Int)<=10:=om0;go_wp2;go_ret;exact⟨rfl,kb⟩
    · have hbf:b=false:=NO.out _ HB.out.1 fun q=>e q.1;subst hbf;have e': ¬(n:Int)<=10:=om0;go_wp2;go_ret;exact⟨rfl,kb⟩
theorem Du(lo:Option Addr)(n cm:Nat)(xo pa:Nat->Option Addr)(xc pn pc:Nat->Nat)(X:Nat->Nat->Int)(r c:Nat->Int)(z:Nat->Nat->Int)(w:World)(hl:Dst w lo n cm (fun k=> .slice (xo k) 6 (xc k)) (fun k=> .slice (pa k) (pn k) (pc k)))(hX: ∀ k,k<n->Sl w (xo k) 6 (xc k) (X k))(hn:n<=10)
 (hM: ∀ k,k<n-> ∀ W,Below w.heap.size w W->Calls Tryz.prog 66 #[.slice (pa k) (pn k) (pc k)] W fun e w'=>e= .returned (.agg (aj (r k) (c k) (z k)).toArray)/\Below W.heap.size W w'):
 Calls Tryz.prog 37 #[.slice lo n cm] w fun e w'=> ∃ vo vm,e= .returned (.slice vo n vm)/\Pst w' vo n vm X r c z/\Below w.heap.size w w':=by
 have l1:=hl.le;have l2:=hl.cap;obtain⟨x,hlo,hcl⟩:=hl.get;have HLO:=lX hlo;have HCL:=lX hcl;have HG:=lX (fun k (hk:k<n) W (b:Below w.heap.size w W)=>Il (xo k) (pa k) (xc k) (pn k) (pc k) (X k) (r k) (c k) (z k) W ((hX k hk).keep b) (fun V q=>hM k hk V (ae b q)));clear hl hlo hcl hX hM;go_enter Tryz.func37,Tryz.ntmps37
 go_wp2;go_loopw [3,4] (fun out i wr=> ∃ k:Nat,k<=n/\i= .int .i64 (k:Int)/\El.Els 55 44 w.heap.size w wr out k (fun k cs _=>cs=aB (X k) (r k) (c k) (z k))) (fun _ i _=>n- (intOf i).toNat)
 case atStart=>exact⟨0,om0,rfl,El.Els.nil (Below.refl _ _) (Nat.le_refl _) _ _ _⟩
 case round=>
  rename World=>wr;obtain⟨k,hk,rfl,hL⟩:=hrel;by_cases hkn:k<n
  ·obtain⟨c0,c1⟩:=HCL.out k hkn;have c0:=lX (ah hL.below c0);have c1:=lX (ah hL.below c1);obtain rfl:=HLO.out om0;have HC:=lX (HG.out k hkn wr hL.below);have HL:=lX hL;have kn:(k:Int)<n:=om0;have HXk:Hid (∀ (X':Nat->Int) (r' c':Int) (z':Nat->Int),X'=X k->r'=r k->c'=c k->z'=z k->aB X' r' c' z'=aB (X k) (r k) (c k) (z k)):=fun _ _ _ _ h1 h2 h3 h4=>by rw [h1,h2,h3,h4]
   obtain⟨u,hu⟩: ∃ q,q=xo k:=⟨_,rfl⟩;obtain⟨uc,huc⟩: ∃ q,q=xc k:=⟨_,rfl⟩;obtain⟨v,hv⟩: ∃ q,q=pa k:=⟨_,rfl⟩;obtain⟨vn,hvn⟩: ∃ q,q=pn k:=⟨_,rfl⟩;obtain⟨vc,hvc⟩: ∃ q,q=pc k:=⟨_,rfl⟩;obtain⟨Xk,hXk⟩: ∃ q,q=X k:=⟨_,rfl⟩;obtain⟨rk,hrk⟩: ∃ q,q=r k:=⟨_,rfl⟩;obtain⟨ck,hck⟩: ∃ q,q=c k:=⟨_,rfl⟩;obtain⟨zk,hzk⟩: ∃ q,q=z k:=⟨_,rfl⟩;have HEq:=lX (HXk.out Xk rk ck zk hXk hrk hck hzk);rw [← hu,← huc,← hv,← hvn,← hvc,← hXk,← hrk,← hck,← hzk] at HC;rw [← hu,← huc] at c0;rw [← hv,← hvn,← hvc] at c1;clear hu huc hv hvn hvc hXk hrk hck hzk HXk hL
   go_wp2_with (first
    |(refine oC rfl 60 _ rl0 (x.add (k*2)) (.agg #[.slice u 6 uc, .slice v vn vc]) rl0 (rH _ _ _ _ c0.out c1.out) ?_)
    |fail)
   refine(HC.out).mono ?_;rintro e w2 ⟨rfl,k2⟩;have HL2:=lX (HL.out.keep k2);clear HL c0 c1 HC
   go_wp2_with (first
    |((with_reducible show wpList _ _ _ _ _ _);refine xg _ (by with_reducible rfl) _ _ _ _ rl0 rl0 ?_)
    |(at_builtin;refine El.push rl0 (.tmp 11) (.tmp 17) 32 55 44 352 (.agg (aB (fun _=>0) 0 0 (fun _=>0)).toArray) rl0 Tryz.underlying32 aaI (by simp [Value.cells,Pd.aA]) (by decide) (by decide) w.heap.size w _ k _ rl0 HL2.out om0 (aB Xk rk ck zk) (aA _ _ _ _) (cZ _ _ _ _) (fun _ _=>HEq.out) rl0 ?_)
    |fail)
   intro v' w' hL';go_wp2;go_roundw
   case rel=>exact⟨k+1,om0,by go_num,hL'⟩
   case measure=>simp [intOf];omega
  ·obtain rfl:n=k:=om0;obtain⟨vo,vm,rfl,hP⟩:=aaH hL;have HP:=lX hP;have kb:=hL.below;clear hP hL;go_wp2;go_ret;exact⟨_,_,rfl,HP.out,kb⟩
theorem F7(ao lo:Option Addr)(n ca cm:Nat)(A pl:Nat->Option Addr)(C pc:Nat->Nat)(X:Nat->Nat->Int)(P:Nat->Nat->Nat->Int)(w:World)(hA:Pst w ao n ca X (fun _=>6) (fun _=>6) (fun k=>mz 6 6 (P k)))(hl:Dst w lo n cm (fun k=> .slice (A k) 6 (C k)) (fun k=> .slice (pl k) 6 (pc k)))
 (hX: ∀ k,k<n->Sl w (A k) 6 (C k) (X k)/\Grid w (pl k) 6 (pc k) 6 (P k)):
 Calls Tryz.prog 49 #[.slice ao n ca, .slice lo n cm] w fun e w'=>e= .returned (.bool true)/\Below w.heap.size w w':=by
 have l1:=hl.le;have l2:=hl.cap;have l3:=hA.le;have l4:=hA.cap;obtain⟨x,hlo,hcl⟩:=hl.get;obtain⟨g,hao,hca⟩:=hA.get;have HLO:=lX hlo;have HAO:=lX hao;have HI:=lX (fun k (hk:k<n) W (b:Below w.heap.size w W)=>Io (A k) (pl k) (C k) (pc k) (X k) (P k) W ((hX k hk).1.keep b) ((hX k hk).2.keep b));have HS:=lX (fun k (hk:k<n) W (b:Below w.heap.size w W)=>(⟨fun j v hv=>ah b (hca k hk j v hv),ah b (hcl k hk).1,ah b (hcl k hk).2⟩:W.rangeAt g (k*44) (aB (X k) 6 6 (mz 6 6 (P k)))/\W.cell? (x.add (k*2))=some (.slice (A k) 6 (C k))/\W.cell? ((x.add (k*2)).add 1)=some (.slice (pl k) 6 (pc k))));clear hl hlo hcl hX hA hao hca;go_enter Tryz.func49,Tryz.ntmps49
 go_wp2;go_loopw [5] (fun i wr=> ∃ k:Nat,k<=n/\i= .int .i64 (k:Int)/\Below w.heap.size w wr) (fun i _=>n- (intOf i).toNat)
 case atStart=>exact⟨0,om0,rfl,Below.refl _ _⟩
 case round=>
  rename World=>wr;obtain⟨k,hk,rfl,kb⟩:=hrel;by_cases hkn:k<n
  ·obtain rfl:=HLO.out om0;obtain rfl:=HAO.out om0;have HC:=lX (fun W (b:Below wr.heap.size wr W)=>HI.out k hkn W (ae kb b));have HS1:=lX (fun W (b:Below wr.heap.size wr W)=>HS.out k hkn W (ae kb b));have kn:(k:Int)<n:=om0;obtain⟨zk,hzk⟩: ∃ q,q=mz 6 6 (P k):=⟨_,rfl⟩;obtain⟨Xk,hXk⟩: ∃ q,q=X k:=⟨_,rfl⟩;obtain⟨u,hu⟩: ∃ q,q=A k:=⟨_,rfl⟩;obtain⟨uc,huc⟩: ∃ q,q=C k:=⟨_,rfl⟩;obtain⟨v,hv⟩: ∃ q,q=pl k:=⟨_,rfl⟩;obtain⟨vc,hvc⟩: ∃ q,q=pc k:=⟨_,rfl⟩;rw [← hzk,← hXk,← hu,← huc,← hv,← hvc] at HC HS1;clear hzk hXk hu huc hv hvc;go_wp2;refine Ru.aS [] (fun w'=>w'.rangeAt g (k*44) (aB Xk 6 6 zk)/\w'.cell? (x.add (k*2))=some (.slice u 6 uc)/\w'.cell? ((x.add (k*2)).add 1)=some (.slice v 6 vc)) (by kernel_rfl) (HS1.out _ (Vc.az _)) (fun hHeld=> ?_);refine Ru.tk3 0 (.slice (some ⟨g,0,none⟩) n ca) hHeld ?_;refine Ru.tk3 1 (.int .i64 (k:Int)) hHeld ?_;refine Ru.tk3 2 (.pointer (some ⟨g,k*44,none⟩)) hHeld ?_;refine Ru.tk 3 (.agg (aB Xk 6 6 zk).toArray) rfl (WS isS (by kernel_rfl) _ rl0 g (k*44) _ rl0 (fun w h=>h.1) (aA _ _ _ _)) hHeld ?_;refine Ru.tk3 4 (.slice (some x) n cm) hHeld ?_;refine Ru.tk3 5 (.int .i64 (k:Int)) hHeld ?_;refine Ru.tk3 6 (.pointer (some (x.add (k*2)))) hHeld ?_;refine Ru.tk 7 (.agg #[.slice u 6 uc, .slice v 6 vc]) rfl (ve (by kernel_rfl) _ rl0 (x.add (k*2)) _ _ rl0 (fun w h=>h.2)) hHeld ?_;refine Ru.rd 8 (fun K hK=> ?_);go_simp;refine(HC.out _ (Vc.az _)).mono ?_;rintro _ w2 ⟨rfl,k2⟩;have kq:=ae (Vc.az wr) k2;go_wp2_with fail
   refine Ru.hd hK (HS1.out _ kq) (fun hHeld=> ?_);clear hK K;refine Ru.tk3 9 (.bool false) hHeld ?_;refine Ru.bI (by kernel_rfl) ?_;go_wp2;go_roundw
   case rel=>exact⟨k+1,om0,by go_num,ae kb kq⟩
   case measure=>simp [intOf];omega
  ·obtain rfl:n=k:=om0;go_wp2;go_ret;exact⟨rfl,kb⟩
end
section
open Go.RowKit Vc St Mt Pd Mx
namespace Im
theorem aZ{p:Prop}(h:p):Hid p:=h
structure Dmt(w:World)(lo:Option Addr)(n cm:Nat)(K V N:Nat->Int):Prop where
 le:n<=cm
 cap:cm<=9223372036854775807
 at': ∀ k,k<n-> ∃ x,lo=some x/\w.cell? (x.add (k*3))=some (.int .i64 (K k))/\w.cell? ((x.add (k*3)).add 1)=some (.int .i64 (V k))/\w.cell? ((x.add (k*3)).add 2)=some (.int .i64 (N k))
theorem Dmt.get{w:World}{lo:Option Addr}{n cm:Nat}{K V N:Nat->Int}(h:Dmt w lo n cm K V N): ∃ x,(0<n->lo=some x)/\ ∀ k,k<n->w.cell? (x.add (k*3))=some (.int .i64 (K k))/\w.cell? ((x.add (k*3)).add 1)=some (.int .i64 (V k))/\w.cell? ((x.add (k*3)).add 2)=some (.int .i64 (N k)):=by
 rcases Nat.eq_zero_or_pos n with e|e
 · exact⟨⟨0,0,none⟩,fun q=>by omega,fun k hk=>by omega⟩
 · obtain⟨x,hx,_⟩:=h.at' 0 e;refine⟨x,fun _=>hx,fun k hk=> ?_⟩;obtain⟨y,hy,hc⟩:=h.at' k hk;rw [hx] at hy;injection hy with q
   subst q;exact hc
theorem Dmt.keep{w w':World}{lo:Option Addr}{n cm:Nat}{K V N:Nat->Int}(h:Dmt w lo n cm K V N)(b:Below w.heap.size w w'):Dmt w' lo n cm K V N:=
 ⟨h.le,h.cap,fun k hk=>by obtain⟨x,hx,h0,h1,h2⟩:=h.at' k hk;exact⟨x,hx,ah b h0,ah b h1,ah b h2⟩⟩
theorem Em{cs:List Value}(h:cs.length=3): ∃ u v z,cs= [u,v,z]:=by
 match cs,h with
 | [u,v,z],_=>exact⟨u,v,z,rfl⟩
theorem Rx{α β:Type}{f:α->β}{l:List α}{x y z:β}(h:l.map f= [x,y,z]): ∃ a b c,l= [a,b,c]/\f a=x/\f b=y/\f c=z:=by
 match l,h with
 | [a,b,c],h=>
   injection h with h0 h
   injection h with h1 h
   injection h with h2 _
   exact⟨a,b,c,rfl,h0,h1,h2⟩
theorem FI:(Tryz.prog.fieldsOf 97).toList.map (fun f=>(f.name,f.type,f.offset))= [("Kind",3,0),("Rate",2,1),("Noise",2,2)]:=by kernel_rfl
theorem BK:Tryz.prog.underlying 97=some (.struct (Tryz.prog.fieldsOf 97)):=by kernel_rfl
theorem O0{w:World}{cs:List Value}(h:Lie.L w 97 cs): ∃ k v n:Int,cs= [.int .i64 k, .int .i64 v, .int .i64 n]/\(-9223372036854775808<=k/\k<=9223372036854775807)/\(-9223372036854775808<=v/\v<=9223372036854775807)/\(-9223372036854775808<=n/\n<=9223372036854775807):=by
 obtain⟨hlen,hF⟩:=Lie.FZ BK h;have hl:cs.length=3:=by rw [hlen];kernel_rfl
 obtain⟨u,v,z,rfl⟩:=Em hl;clear hlen hl h;obtain⟨f0,f1,f2,hf,h0,h1,h2⟩:=Rx FI;injection h0 with n0 h0
 injection h0 with t0 o0
 injection h1 with n1 h1
 injection h1 with t1 o1
 injection h2 with n2 h2
 injection h2 with t2 o2
 have c0:Tryz.prog.cellsOf 3=1:=by kernel_rfl
 have c1:Tryz.prog.cellsOf 2=1:=by kernel_rfl
 have g0:Lie.L w 3 [u]:=by
  have f:=hF 0 f0 (by rw [← Array.getElem?_toList,hf];rfl);rw [t0,o0,c0] at f;exact f
 have g1:Lie.L w 2 [v]:=by
  have f:=hF 1 f1 (by rw [← Array.getElem?_toList,hf];rfl);rw [t1,o1,c1] at f;exact f
 have g2:Lie.L w 2 [z]:=by
  have f:=hF 2 f2 (by rw [← Array.getElem?_toList,hf];rfl);rw [t2,o2,c1] at f;exact f
 obtain⟨a,e0,b0⟩:=Lie.int_ Tryz.underlying3 g0;obtain⟨b,e1,b1⟩:=Lie.int_ Tryz.underlying2 g1;obtain⟨c,e2,b2⟩:=Lie.int_ Tryz.underlying2 g2;injection e0 with e0 _
 injection e1 with e1 _
 injection e2 with e2 _
 subst e0 e1 e2;exact⟨a,b,c,rfl,Lie.wf64 b0,Lie.wf64 b1,Lie.wf64 b2⟩
theorem zh:B64 (fun _=>0):=fun _=>⟨(by decide:(-9223372036854775808:Int)<=0),(by decide:(0:Int)<=9223372036854775807)⟩
theorem O4{W:World}{cs:List Value}(h:Lie.L W 22 cs): ∃ (lo:Option Addr) (n cm:Nat) (K V N:Nat->Int),cs= [.slice lo n cm]/\Dmt W lo n cm K V N/\B64 K/\B64 V/\B64 N:=by
 rcases Lie.Np Tryz.underlying22 h with rfl|⟨a,len,cap,rfl,hl,hm,hel⟩
 · exact⟨none,0,0,fun _=>0,fun _=>0,fun _=>0,rfl,⟨Nat.le_refl _,om0,fun k hk=>by omega⟩,zh,zh,zh⟩
 · have c3:Tryz.prog.cellsOf 97=3:=by kernel_rfl
   have key: ∀ i,i<cap-> ∃ y:Int×Int×Int,W.cell? (a.add (i*3))=some (.int .i64 y.1)/\W.cell? ((a.add (i*3)).add 1)=some (.int .i64 y.2.1)/\W.cell? ((a.add (i*3)).add 2)=some (.int .i64 y.2.2)/\(-9223372036854775808<=y.1/\y.1<=9223372036854775807)/\(-9223372036854775808<=y.2.1/\y.2.1<=9223372036854775807)/\(-9223372036854775808<=y.2.2/\y.2.2<=9223372036854775807):=fun i hi=>by
    obtain⟨es,h1,h2⟩:=hel i hi;obtain⟨k,v,n,rfl,b0,b1,b2⟩:=O0 h2;rw [c3] at h1;have h3:=(World.cells?_some h1).2.2 0 om0;have h4:=(World.cells?_some h1).2.2 1 om0;have h5:=(World.cells?_some h1).2.2 2 om0;rw [Lie.xu] at h3;exact⟨(k,v,n),h3,h4,h5,b0,b1,b2⟩
   refine⟨some a,len,cap,fun i=>if h:i<cap then(key i h).choose.1 else 0,fun i=>if h:i<cap then(key i h).choose.2.1 else 0,fun i=>if h:i<cap then(key i h).choose.2.2 else 0,rfl,⟨hl,hm,fun k hk=>⟨a,rfl, ?_⟩⟩,fun k=> ?_,fun k=> ?_,fun k=> ?_⟩
   · have hk':k<cap:=om0;simp only [dif_pos hk'];exact⟨(key k hk').choose_spec.1,(key k hk').choose_spec.2.1,(key k hk').choose_spec.2.2.1⟩
   all_goals by_cases hk:k<cap
   all_goals first
    |(simp only [dif_pos hk];first|exact(key k hk).choose_spec.2.2.2.1|exact(key k hk).choose_spec.2.2.2.2.1|exact(key k hk).choose_spec.2.2.2.2.2)
    |(simp only [dif_neg hk];exact zh 0)
theorem aaZ:(Tryz.prog.fieldsOf 25).toList.map (fun f=>(f.name,f.type,f.offset))= [("Models",22,0),("Rows",23,1),("Floor",2,2)]:=by kernel_rfl
theorem aa0:Tryz.prog.underlying 25=some (.struct (Tryz.prog.fieldsOf 25)):=by kernel_rfl
theorem UB{w:World}{cs:List Value}(h:Lie.L w 25 cs):
 ∃ (mo:Option Addr) (n mc:Nat) (K V N:Nat->Int) (ro:Option Addr) (q rc:Nat) (A:Nat->Option Addr) (L C:Nat->Nat) (R:Nat->Nat->Int) (fl:Int),cs= [.slice mo n mc, .slice ro q rc, .int .i64 fl]/\Dmt w mo n mc K V N/\(B64 K/\B64 V/\B64 N)/\Sls w ro q rc A L C/\(∀ r,r<q->Sl w (A r) (L r) (C r) (R r)/\B64 (R r))/\(-9223372036854775808<=fl/\fl<=9223372036854775807):=by
 obtain⟨hlen,hF⟩:=Lie.FZ aa0 h;have hl:cs.length=3:=by rw [hlen];kernel_rfl
 obtain⟨u,v,z,rfl⟩:=Em hl;clear hlen hl h;obtain⟨f0,f1,f2,hf,h0,h1,h2⟩:=Rx aaZ;injection h0 with n0 h0
 injection h0 with t0 o0
 injection h1 with n1 h1
 injection h1 with t1 o1
 injection h2 with n2 h2
 injection h2 with t2 o2
 have c0:Tryz.prog.cellsOf 22=1:=by kernel_rfl
 have c1:Tryz.prog.cellsOf 23=1:=by kernel_rfl
 have c2:Tryz.prog.cellsOf 2=1:=by kernel_rfl
 have g0:Lie.L w 22 [u]:=by
  have f:=hF 0 f0 (by rw [← Array.getElem?_toList,hf];rfl);rw [t0,o0,c0] at f;exact f
 have g1:Lie.L w 23 [v]:=by
  have f:=hF 1 f1 (by rw [← Array.getElem?_toList,hf];rfl);rw [t1,o1,c1] at f;exact f
 have g2:Lie.L w 2 [z]:=by
  have f:=hF 2 f2 (by rw [← Array.getElem?_toList,hf];rfl);rw [t2,o2,c2] at f;exact f
 obtain⟨mo,n,mc,K,V,N,e0,sM,bK,bV,bN⟩:=O4 g0;obtain⟨ro,q,rc,A,L,C,R,e1,sR,qR⟩:=Lie.rows Tryz.underlying23 Tryz.underlying27 Tryz.underlying2 (by kernel_rfl) (by kernel_rfl) g1;obtain⟨fl,e2,b2⟩:=Lie.int_ Tryz.underlying2 g2;injection e0 with e0 _
 injection e1 with e1 _
 injection e2 with e2 _
 subst e0 e1 e2;exact⟨mo,n,mc,K,V,N,ro,q,rc,A,L,C,R,fl,rfl,sM,⟨bK,bV,bN⟩,sR,qR,Lie.wf64 b2⟩
end Im
namespace Im
theorem aa1:(Tryz.prog.fieldsOf 29).toList.map (fun f=>(f.name,f.type,f.offset))= [("States",26,0),("Chances",27,1)]:=by kernel_rfl
theorem aa2:Tryz.prog.underlying 29=some (.struct (Tryz.prog.fieldsOf 29)):=by kernel_rfl
theorem WT{w:World}{cs:List Value}(h:Lie.L w 29 cs):
 ∃ (lo:Option Addr) (n cm:Nat) (D:Nat->Raw) (ho:Option Addr) (m hc:Nat) (ch:Nat->Int),cs= [.slice lo n cm, .slice ho m hc]/\Dst w lo n cm (fun k=> .slice (D k).xo (D k).xn (D k).xc) (fun k=> .slice (D k).po (D k).pn (D k).pc)/\(∀ k,k<n->(D k).Ok w)/\Sl w ho m hc ch/\B64 ch:=by
 obtain⟨hlen,hF⟩:=Lie.FZ aa2 h;have hl:cs.length=2:=by rw [hlen];kernel_rfl
 obtain⟨u,v,rfl⟩:=Nq hl;clear hlen hl h;obtain⟨f0,f1,hf,h0,h1⟩:=ZT aa1;injection h0 with n0 h0
 injection h0 with t0 o0
 injection h1 with n1 h1
 injection h1 with t1 o1
 have c0:Tryz.prog.cellsOf 26=1:=by kernel_rfl
 have c1:Tryz.prog.cellsOf 27=1:=by kernel_rfl
 have g0:Lie.L w 26 [u]:=by
  have f:=hF 0 f0 (by rw [← Array.getElem?_toList,hf];rfl);rw [t0,o0,c0] at f;exact f
 have g1:Lie.L w 27 [v]:=by
  have f:=hF 1 f1 (by rw [← Array.getElem?_toList,hf];rfl);rw [t1,o1,c1] at f;exact f
 obtain⟨lo,n,cm,D,e0,hD,ok⟩:=OZ g0;obtain⟨ho,m,hc,ch,e1,sC,bC⟩:=Lie.ints Tryz.underlying27 Tryz.underlying2 (by kernel_rfl) g1;injection e0 with e0 _
 injection e1 with e1 _
 subst e0 e1;exact⟨lo,n,cm,D,ho,m,hc,ch,rfl,hD,ok,sC,bC⟩
end Im
end
end Go.Proofs.YtcefcokpjbebhaaGreatDoor
