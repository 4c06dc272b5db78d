/-
  Package imm (layer 17): which confs and Imms may be.
-/
import Derived.Test.YtcefcokpjbebhaaGreatDoorImQ
import Derived.Test.YtcefcokpjbebhaaGreatDoorM38
import Derived.Test.YtcefcokpjbebhaaGreatDoorM35
set_option linter.unusedSimpArgs false
set_option linter.unusedVariables false
set_option maxHeartbeats 4000000
set_option maxRecDepth 20000
namespace Go.Proofs.YtcefcokpjbebhaaGreatDoor
section
open Go.RowKit Vc Cn Mx St Mt Pd Im
attribute [local go_sem ↓] Go.wp_at_zero Go.wp_at_succ
namespace Im
theorem bT{p:Prop}(h:p):Hid p:=h
theorem isCo:Is 41 3:=⟨by kernel_rfl,⟨_,Tryz.underlying41,rfl⟩⟩
theorem F9:Is 34 2:=⟨by kernel_rfl,⟨_,Tryz.underlying34,rfl⟩⟩
theorem ckT:ckR true= .nilIface:=rfl
theorem ckF:ckR false= .iface 93 (.int .i64 1):=rfl
end Im
theorem rJ(b:Bool)(ao:Option Addr)(n ca m:Nat)(z:Nat->Int)(w:World)(hl:Sl w ao n ca z)(bz:B64 z)(hb:b=true↔n=m/\Ch n z 0):
 Calls Tryz.prog 87 #[.slice ao n ca, .int .i64 (m:Int)] w fun e w'=>e= .returned (.bool b)/\Below w.heap.size w w':=by
 have l1:=hl.le;have l2:=hl.cap;have HC:=bT (FY w ao n ca z 0 hl bz om1 om1);by_cases hnm:n=m
 · subst hnm;by_cases hch:Ch n z 0
   · obtain rfl:b=true:=hb.2 ⟨rfl,hch⟩;have HCH:=bT hch;clear hb hl bz hch;go_enter Tryz.func87,Tryz.ntmps87
     go_wp2_with (first
      |(go_at_call 172;refine HC.out.mono ?_;rintro e w1 ⟨ev,rfl,k1,⟨_,q⟩|⟨q,_⟩⟩;subst q;rotate_left;(exact absurd HCH.out q))
      |fail)
     go_ret;exact⟨rfl,k1⟩
   · obtain rfl:b=false:=by cases b with|false=>rfl|true=>exact absurd (hb.1 rfl).2 hch
     have HCH:=bT hch;clear hb hl bz hch;go_enter Tryz.func87,Tryz.ntmps87
     go_wp2_with (first
      |(go_at_call 172;refine HC.out.mono ?_;rintro e w1 ⟨ev,rfl,k1,⟨q,_⟩|⟨_,q⟩⟩;(exact absurd q HCH.out);subst q;simp only [Cb])
      |fail)
     go_ret;exact⟨rfl,k1⟩
 · obtain rfl:b=false:=by cases b with|false=>rfl|true=>exact absurd (hb.1 rfl).1 hnm
   have e1:(((n:Nat):Int)==((m:Nat):Int))=false:=by rw [beq_eq_false_iff_ne];omega
   clear hb hl bz hnm;go_enter Tryz.func87,Tryz.ntmps87
   go_wp2;go_ret;exact⟨rfl,Below.refl _ _⟩
theorem Ui(b:Bool)(ro:Option Addr)(q rc m:Nat)(A:Nat->Option Addr)(L C:Nat->Nat)(R:Nat->Nat->Int)(w:World)(hs:Sls w ro q rc A L C)(he: ∀ i,i<q->Sl w (A i) (L i) (C i) (R i))(br: ∀ i,B64 (R i))(hb:b=true↔q=m/\ ∀ i,i<m->L i=m/\Ch m (R i) 0):
 Calls Tryz.prog 45 #[.slice ro q rc, .int .i64 (m:Int)] w fun e w'=>e= .returned (.bool b)/\Below w.heap.size w w':=by
 have l1:=hs.le;have l2:=hs.cap
 have NO:Hid (¬(q=m/\ ∀ i,i<m->L i=m/\Ch m (R i) 0)->b=false):=fun h=>by
  cases hb':b with
  |false=>rfl
  |true=>exact absurd (hb.1 hb') h
 have YES:Hid ((q=m/\ ∀ i,i<m->L i=m/\Ch m (R i) 0)->b=true):=fun h=>hb.2 h;by_cases hqm:q=m
 ·subst hqm
  have HC:Hid (∀ k,k<q-> ∃ t:Bool,(t=true↔L k=q/\Ch q (R k) 0)/\ ∀ W,Below w.heap.size w W->Calls Tryz.prog 87 #[.slice (A k) (L k) (C k), .int .i64 (q:Int)] W fun e w'=>e= .returned (.bool t)/\Below W.heap.size W w'):=fun k hk=>by
   by_cases h:L k=q/\Ch q (R k) 0
   ·exact⟨true,⟨fun _=>h,fun _=>rfl⟩,fun W kw=>rJ true (A k) (L k) (C k) q (R k) W ((he k hk).keep kw) (br k) ⟨fun _=>⟨h.1,by rw [h.1];exact h.2⟩,fun _=>rfl⟩⟩
   ·exact⟨false,⟨fun e=>(by cases e),fun e=>absurd e h⟩,fun W kw=>rJ false (A k) (L k) (C k) q (R k) W ((he k hk).keep kw) (br k) ⟨fun e=>(by cases e),fun e=>absurd ⟨e.1,by rw [← e.1];exact e.2⟩ h⟩⟩
  obtain⟨x,hx,hc⟩:=hs.get;have HX:=bT hx;have HCE:=bT hc;clear hs he br hb hx hc;go_enter Tryz.func45,Tryz.ntmps45
  go_wp2_with fail
  go_loopw [13] (fun i wr=> ∃ k:Nat,k<=q/\i= .int .i64 (k:Int)/\(∀ j,j<k->L j=q/\Ch q (R j) 0)/\Below w.heap.size w wr) (fun i _=>q- (intOf i).toNat)
  case atStart=>exact⟨0,om1,rfl,fun j hj=>by omega,Below.refl _ _⟩
  case round=>
   rename World=>wr;obtain⟨k,hk,rfl,hj,kb⟩:=hrel;by_cases h:k<q
   ·obtain rfl:=HX.out om1;have c1:=ah kb (HCE.out k h);obtain⟨t,ht,hck⟩:=HC.out k h;have HT:=bT ht;have HJ:=bT hj;have HCK:=bT (hck _ kb)
    have NO':Hid (t=false->b=false):=fun e=>NO.out fun z=>by
     have e2:=HT.out.2 (z.2 k h);rw [e] at e2;cases e2
    have kn:(k:Int)<q:=om1;clear ht hj hck;go_wp2_with fail
    refine HCK.out.mono ?_;rintro e w3 ⟨rfl,k3⟩;have B3:=ae kb k3;clear k3 c1;cases t with
    |true=>
     have HOK:=bT (HT.out.1 rfl);go_wp2;go_roundw
     case rel=>exact⟨k+1,om1,by go_num,fun j hj=>(by
      by_cases e:j=k
      ·rw [e];exact HOK.out
      ·exact HJ.out j om1),B3⟩
     case measure=>simp [intOf];omega
    |false=>
     have hbf:=NO'.out rfl;subst hbf;go_wp2;go_ret;exact⟨rfl,B3⟩
   ·obtain rfl:q=k:=om1;have hbt:=YES.out ⟨by trivial,hj⟩;subst hbt;clear hj;go_wp2;go_ret;exact⟨rfl,kb⟩
 ·have hbf:=NO.out (fun h=>hqm h.1);subst hbf;have e1:(((q:Nat):Int) !=((m:Nat):Int))=true:=by rw [bne_iff_ne];omega
  clear hs he br hb hqm;go_enter Tryz.func45,Tryz.ntmps45
  go_wp2;go_ret;exact⟨rfl,Below.refl _ _⟩
theorem J9(b:Bool)(lo:Option Addr)(n cm:Nat)(K V N:Nat->Int)(w:World)(hp:Pmt w lo n cm K V N)(hb:b=true↔(1<=n/\n<=4)/\ ∀ i,i<n->Mo.CV (K i) (V i) (N i)):
 Calls Tryz.prog 44 #[.slice lo n cm] w fun e w'=>e= .returned (.bool b)/\Below w.heap.size w w':=by
 have l1:=hp.le;have l2:=hp.cap
 have NO:Hid (¬((1<=n/\n<=4)/\ ∀ i,i<n->Mo.CV (K i) (V i) (N i))->b=false):=fun h=>by
  cases hb':b with
  |false=>rfl
  |true=>exact absurd (hb.1 hb') h
 have YES:Hid (((1<=n/\n<=4)/\ ∀ i,i<n->Mo.CV (K i) (V i) (N i))->b=true):=fun h=>hb.2 h;by_cases hn:1<=n/\n<=4
 ·have HC:Hid (∀ k,∃ t:Bool,(t=true↔Mo.CV (K k) (V k) (N k))/\ ∀ W,Calls Tryz.prog 70 #[.agg [.int .i64 (K k), .int .i64 (V k), .int .i64 (N k)].toArray] W fun e w'=>e= .returned (ckR t)/\Below W.heap.size W w'):=fun k=>by
   by_cases h:Mo.CV (K k) (V k) (N k)
   ·exact⟨true,⟨fun _=>h,fun _=>rfl⟩,fun W=>tV (K k) (V k) (N k) W h⟩
   ·exact⟨false,⟨fun e=>(by cases e),fun e=>absurd e h⟩,fun W=>Ia (K k) (V k) (N k) W h⟩
  obtain⟨g,hlo,hg⟩:=hp.get;obtain rfl:=hlo om1;have HG:=bT hg;have HN:=bT hn;have n1: ¬((n:Int)<1):=om1;have n4: ¬((n:Int)>4):=om1;clear hp hb hlo hg hn;go_enter Tryz.func44,Tryz.ntmps44
  go_wp2_with fail
  go_loopw [15] (fun i wr=> ∃ k:Nat,k<=n/\i= .int .i64 (k:Int)/\(∀ j,j<k->Mo.CV (K j) (V j) (N j))/\Below w.heap.size w wr) (fun i _=>n- (intOf i).toNat)
  case atStart=>exact⟨0,om1,rfl,fun j hj=>by omega,Below.refl _ _⟩
  case round=>
   rename World=>wr;obtain⟨k,hk,rfl,hj,kb⟩:=hrel;by_cases h:k<n
   ·have r1:wr.rangeAt g (k*3) [.int .i64 (K k), .int .i64 (V k), .int .i64 (N k)]:=fun j v hv=>ah kb (HG.out k h j v hv);obtain⟨t,ht,hck⟩:=HC.out k;have HT:=bT ht;have HJ:=bT hj;have HCK:=bT hck
    have NO':Hid (t=false->b=false):=fun e=>NO.out fun z=>by
     have e2:=HT.out.2 (z.2 k h);rw [e] at e2;cases e2
    have kn:(k:Int)<n:=om1;obtain⟨ds,hds⟩: ∃ q,q= [Value.int .i64 (K k), .int .i64 (V k), .int .i64 (N k)]:=⟨_,rfl⟩;have d3:ds.length=3:=by rw [hds];rfl
    have d1: ∀ v∈ds,v.oneCell'=true:=by rw [hds];intro v hv;simp only [List.mem_cons,List.not_mem_nil,or_false] at hv;rcases hv with rfl|rfl|rfl<;>rfl
    rw [← hds] at HCK r1;clear hds ht hj hck
    go_wp2_with (first
     |((with_reducible show wpList _ _ _ _ _ _);refine St.dA Mo.Hu rl1 _ rl1 _ _ _ rl1 (by with_reducible exact r1) d3 ?_)
     |(refine St.aF Mo.Hu rfl _ _ rl1 _ [.int .i64 0, .int .i64 0, .int .i64 0] _ rl1 rl1 rfl d3 d1 ?_;intro w2 t2 k2;have B2:=ae kb k2;clear k2 r1)
     |((with_reducible show wpList _ _ _ _ _ _);refine St.aI Mo.Hu rl1 _ rl1 _ _ rl1 (by with_reducible exact t2) d3 ?_)
     |fail)
    refine(HCK.out _).mono ?_;rintro e w3 ⟨rfl,k3⟩;have B3:=ae B2 k3;clear t2 B2 k3;cases t with
    |true=>
     have HOK:=bT (HT.out.1 rfl);rw [ckT];go_wp2;go_roundw
     case rel=>exact⟨k+1,om1,by go_num,fun j hj=>(by
      by_cases e:j=k
      ·rw [e];exact HOK.out
      ·exact HJ.out j om1),B3⟩
     case measure=>simp [intOf];omega
    |false=>
     have hbf:=NO'.out rfl;subst hbf;rw [ckF];go_wp2;go_ret;exact⟨rfl,B3⟩
   ·obtain rfl:n=k:=om1;have hbt:=YES.out ⟨HN.out,hj⟩;subst hbt;clear hj;go_wp2;go_ret;exact⟨rfl,kb⟩
 ·have hbf:=NO.out (fun h=>hn h.1);subst hbf;clear hb;rcases Nat.eq_zero_or_pos n with e|e
  ·subst e;clear hp hn;go_enter Tryz.func44,Tryz.ntmps44
   go_wp2;go_ret;exact⟨rfl,Below.refl _ _⟩
  ·have n1: ¬((n:Int)<1):=om1;have n4:(n:Int)>4:=om1;clear hp hn e;go_enter Tryz.func44,Tryz.ntmps44
   go_wp2;go_ret;exact⟨rfl,Below.refl _ _⟩
theorem OQ(b:Bool)(fl:Int)(w:World)(hb:b=true↔0<=fl/\fl<=67108864):
 Calls Tryz.prog 46 #[.int .i64 fl] w fun e w'=>e= .returned (.bool b)/\Below w.heap.size w w':=by
 rcases Int.lt_or_le fl 0 with h|h
 · obtain rfl:b=false:=by cases b with|false=>rfl|true=>have:=hb.1 rfl;omega
   have e1: ¬(fl>=0):=om1;clear hb;go_enter Tryz.func46,Tryz.ntmps46
   go_wp2;go_ret;exact⟨rfl,Below.refl _ _⟩
 · have e1:fl>=0:=h;rcases Int.lt_or_le 67108864 fl with h2|h2
   · obtain rfl:b=false:=by cases b with|false=>rfl|true=>have:=hb.1 rfl;omega
     have e2: ¬(fl<=67108864):=om1;clear hb;go_enter Tryz.func46,Tryz.ntmps46
     go_wp2;go_ret;exact⟨rfl,Below.refl _ _⟩
   · obtain rfl:b=true:=hb.2 ⟨h,h2⟩;clear hb;go_enter Tryz.func46,Tryz.ntmps46
     go_wp2;go_ret;exact⟨rfl,Below.refl _ _⟩
end
section
open Go.RowKit Vc Cn Mx St Mt Pd Im
attribute [local go_sem ↓] Go.wp_at_zero Go.wp_at_succ
namespace Im
theorem uX(p:Prop): ∃ b:Bool,b=true↔p:=by
 by_cases h:p
 · exact⟨true,fun _=>h,fun _=>rfl⟩
 · exact⟨false,⟨fun e=>(by cases e),fun e=>absurd e h⟩⟩
theorem xq:FX 1= .iface 93 (.int .i64 1):=rfl
end Im
theorem y9:Yc:=by
 intro W c hc;obtain⟨mo,n,mc,K,V,N,ro,q,rc,A,L,C,R,fl⟩:=c;obtain⟨hm,hr,hb⟩:=hc;show Calls Tryz.prog _ #[.agg #[.slice mo n mc, .slice ro q rc, .int .i64 fl]] W _;show Calls _ _ _ _ fun e w'=>Below W.heap.size W w'/\((¬qw n q K V N L R fl/\e= .returned (FX 1))\/(qw n q K V N L R fl/\e= .returned .nilIface));obtain⟨b1,h1⟩:=uX ((1<=n/\n<=4)/\ ∀ i,i<n->Mo.CV (K i) (V i) (N i));obtain⟨b2,h2⟩:=uX (q=n/\ ∀ i,i<n->L i=n/\Ch n (R i) 0);obtain⟨b3,h3⟩:=uX (0<=fl/\fl<=67108864);have H1:=bT (fun w (k:Below W.heap.size W w)=>J9 b1 mo n mc K V N w (hm.keep k) h1);have H2:=bT (fun w (k:Below W.heap.size W w)=>Ui b2 ro q rc n A L C R w (hr.s.keep k) (fun i hi=>(hr.e i hi).keep k) hb.r h2);have H3:=bT (fun w=>OQ b3 fl w h3)
 have HB:Hid ((b1 && (b2 && b3))=true↔qw n q K V N L R fl):=by
  rw [Bool.and_eq_true,Bool.and_eq_true,h1,h2,h3];exact⟨fun⟨⟨p,s⟩,⟨t,u⟩,v⟩=>⟨p.1,p.2,t,v.1,v.2,fun i hi=>⟨s i hi,u i hi⟩⟩,fun p=>⟨⟨⟨p.one,p.four⟩,fun i hi=>(p.each i hi).1⟩,⟨p.rows,fun i hi=>(p.each i hi).2⟩,p.lo,p.hi⟩⟩
 have r0:=aH W 41 [.slice mo n mc, .slice ro q rc, .int .i64 fl];have B0:=af (Below.refl _ W) (.cells [.slice mo n mc, .slice ro q rc, .int .i64 fl].toArray 41);have l1:=hm.le;have l2:=hm.cap;have l3:=hr.s.le;have l4:=hr.s.cap;rw [xq];clear hm hr hb h1 h2 h3;cases b1 with
 |false=>
  have HN:Hid (¬qw n q K V N L R fl):=fun h=>by have:=HB.out.2 h;simp at this
  go_enter Tryz.func12,Tryz.ntmps12
  go_wp2_with (first
   |(go_at_call 44;refine(H1.out _ B0).mono ?_;rintro e w1 ⟨rfl,k1⟩)
   |fail)
  go_ret;exact⟨ae B0 k1,Or.inl ⟨HN.out,rfl⟩⟩
 |true=>
  cases b2 with
  |false=>
   have HN:Hid (¬qw n q K V N L R fl):=fun h=>by have:=HB.out.2 h;simp at this
   go_enter Tryz.func12,Tryz.ntmps12
   go_wp2_with (first
    |(go_at_call 44;refine(H1.out _ B0).mono ?_;rintro e w1 ⟨rfl,k1⟩;have r1:=ai.keep r0 k1;have c0:w1.cell? ⟨W.heap.size,0,none⟩=some (.slice mo n mc):=ai.cell r1 (k:=0) rfl rfl;have c1:w1.cell? ⟨W.heap.size,1,none⟩=some (.slice ro q rc):=ai.cell r1 (k:=1) rfl rfl)
    |(go_at_call 45;refine(H2.out _ (ae B0 k1)).mono ?_;rintro e w2 ⟨rfl,k2⟩)
    |fail)
   go_ret;exact⟨ae (ae B0 k1) k2,Or.inl ⟨HN.out,rfl⟩⟩
  |true=>
   cases b3 with
   |false=>
    have HN:Hid (¬qw n q K V N L R fl):=fun h=>by have:=HB.out.2 h;simp at this
    go_enter Tryz.func12,Tryz.ntmps12
    go_wp2_with (first
     |(go_at_call 44;refine(H1.out _ B0).mono ?_;rintro e w1 ⟨rfl,k1⟩;have r1:=ai.keep r0 k1;have c0:w1.cell? ⟨W.heap.size,0,none⟩=some (.slice mo n mc):=ai.cell r1 (k:=0) rfl rfl;have c1:w1.cell? ⟨W.heap.size,1,none⟩=some (.slice ro q rc):=ai.cell r1 (k:=1) rfl rfl)
     |(go_at_call 45;refine(H2.out _ (ae B0 k1)).mono ?_;rintro e w2 ⟨rfl,k2⟩;have c2:w2.cell? ⟨W.heap.size,2,none⟩=some (.int .i64 fl):=ai.cell (ai.keep r1 k2) (k:=2) rfl rfl)
     |(go_at_call 46;refine(H3.out _).mono ?_;rintro e w3 ⟨rfl,k3⟩)
     |fail)
    go_ret;exact⟨ae (ae (ae B0 k1) k2) k3,Or.inl ⟨HN.out,rfl⟩⟩
   |true=>
    have HY:Hid (qw n q K V N L R fl):=HB.out.1 rfl;go_enter Tryz.func12,Tryz.ntmps12
    go_wp2_with (first
     |(go_at_call 44;refine(H1.out _ B0).mono ?_;rintro e w1 ⟨rfl,k1⟩;have r1:=ai.keep r0 k1;have c0:w1.cell? ⟨W.heap.size,0,none⟩=some (.slice mo n mc):=ai.cell r1 (k:=0) rfl rfl;have c1:w1.cell? ⟨W.heap.size,1,none⟩=some (.slice ro q rc):=ai.cell r1 (k:=1) rfl rfl)
     |(go_at_call 45;refine(H2.out _ (ae B0 k1)).mono ?_;rintro e w2 ⟨rfl,k2⟩;have c2:w2.cell? ⟨W.heap.size,2,none⟩=some (.int .i64 fl):=ai.cell (ai.keep r1 k2) (k:=2) rfl rfl)
     |(go_at_call 46;refine(H3.out _).mono ?_;rintro e w3 ⟨rfl,k3⟩)
     |fail)
    go_ret;exact⟨ae (ae (ae B0 k1) k2) k3,Or.inr ⟨HY.out,rfl⟩⟩
theorem Nc(b:Bool)(s:Ms)(m:Nat)(w:World)(hs:s.Lies w)(hb:b=true↔s.n=m/\s.May):
 Calls Tryz.prog 34 #[s.v, .int .i64 (m:Int)] w fun e w'=>e= .returned (.bool b)/\Below w.heap.size w w':=by
 obtain⟨lo,n,cm,ho,mm,hc,X,r,c,z,F,ch⟩:=s;obtain⟨hl,hz,bX,bF,hs,bs⟩:=hs;show Calls Tryz.prog _ #[.agg #[.slice lo n cm, .slice ho mm hc],_] w _;replace hb:b=true↔n=m/\uC n mm ch X r c F:=hb;replace hl:Pst w lo n cm X r c z:=hl;replace hz: ∀ k,k<n->r k=6->c k=6->z k=mz 6 6 (F k):=hz;replace hs:Sl w ho mm hc ch:=hs;replace bs:B64 ch:=bs;have l1:=hl.le;have l2:=hl.cap;have l3:=hs.le;have l4:=hs.cap
 have NO:Hid (¬(n=m/\uC n mm ch X r c F)->b=false):=fun q=>by
  cases hb':b with
  |false=>rfl
  |true=>exact absurd (hb.1 hb') q
 have YES:Hid ((n=m/\uC n mm ch X r c F)->b=true):=fun q=>hb.2 q;have r0:=aH w 34 [.slice lo n cm, .slice ho mm hc];have B0:=af (Below.refl _ w) (.cells [.slice lo n cm, .slice ho mm hc].toArray 34);by_cases hnm:n=m
 ·subst hnm;obtain⟨b1,h1⟩:=uX (mm=n/\Ch mm ch 0);have HC:=bT (fun W (k:Below w.heap.size w W)=>rJ b1 ho mm hc n ch W (hs.keep k) bs h1);cases b1 with
  |true=>
   obtain⟨hmn,hch⟩:=h1.1 rfl;subst hmn;have n1:=hch.one;obtain⟨g,hlo,hg⟩:=hl.get;obtain rfl:=hlo om1;have HG:=bT hg;have HCH:=bT hch
   have HK:Hid (∀ k,k<mm-> ∃ t:Bool,(t=true↔r k=6/\c k=6/\Pr.oK (X k) (F k))/\ ∀ W,Calls Tryz.prog 63 #[.agg (Pd.aB (X k) (r k) (c k) (z k)).toArray] W fun e w'=>e= .returned (ckR t)/\Below W.heap.size W w'):=fun k hk=>by
    by_cases h6:r k=6/\c k=6
    ·rw [hz k hk h6.1 h6.2,h6.1,h6.2];by_cases hm:Pr.oK (X k) (F k)
     ·exact⟨true,⟨fun _=>⟨rfl,rfl,hm⟩,fun _=>rfl⟩,fun W=>jy (X k) (F k) true W ⟨fun _=>hm,fun _=>rfl⟩⟩
     ·exact⟨false,⟨fun q=>(by cases q),fun q=>absurd q.2.2 hm⟩,fun W=>jy (X k) (F k) false W ⟨fun q=>(by cases q),fun q=>absurd q hm⟩⟩
    ·exact⟨false,⟨fun q=>(by cases q),fun q=>absurd ⟨q.1,q.2.1⟩ h6⟩,fun W=>BQ (X k) (r k) (c k) (z k) W h6⟩
   clear hl hlo hg hs bs hb hz hch bX bF h1;go_enter Tryz.func34,Tryz.ntmps34
   go_wp2_with (first
    |(go_at_call 87;refine(HC.out _ B0).mono ?_;rintro e w1 ⟨rfl,k1⟩;have r1:=ai.keep r0 k1;have c0:w1.cell? ⟨w.heap.size,0,none⟩=some (.slice (some ⟨g,0,none⟩) mm cm):=ai.cell r1 (k:=0) rfl rfl;have B1:=ae B0 k1)
    |fail)
   go_loopw [22] (fun i wr=> ∃ k:Nat,k<=mm/\i= .int .i64 (k:Int)/\(∀ j,j<k->r j=6/\c j=6/\Pr.oK (X j) (F j))/\Below w.heap.size w wr) (fun i _=>mm- (intOf i).toNat)
   case atStart=>exact⟨0,om1,rfl,fun j hj=>by omega,B1⟩
   case round=>
    rename World=>wr;obtain⟨k,hk,rfl,hj,kb⟩:=hrel;by_cases h:k<mm
    ·have r1:wr.rangeAt g (k*44) (Pd.aB (X k) (r k) (c k) (z k)):=fun j v hv=>ah kb (HG.out k h j v hv);obtain⟨t,ht,hck⟩:=HK.out k h;have HT:=bT ht;have HJ:=bT hj;have HCK:=bT hck
     have NO':Hid (t=false->b=false):=fun e=>NO.out fun q=>by
      have e2:=HT.out.2 (q.2.2.2 k h);rw [e] at e2;cases e2
     have kn:(k:Int)<mm:=om1;obtain⟨Xk,hXk⟩: ∃ q,q=X k:=⟨_,rfl⟩;obtain⟨rk,hrk⟩: ∃ q,q=r k:=⟨_,rfl⟩;obtain⟨ck,hck'⟩: ∃ q,q=c k:=⟨_,rfl⟩;obtain⟨zk,hzk⟩: ∃ q,q=z k:=⟨_,rfl⟩;rw [← hXk,← hrk,← hck',← hzk] at HCK;rw [← hXk,← hrk,← hck',← hzk] at r1;clear hXk hrk hck' hzk ht hj hck
     go_wp2_with (first
      |((with_reducible show wpList _ _ _ _ _ _);refine St.dA isS rl1 _ rl1 _ _ _ rl1 (by with_reducible exact r1) (aA _ _ _ _) ?_)
      |(rw [zeroS];refine St.aF isS rfl _ _ rl1 _ _ _ rl1 rl1 (aA _ _ _ _) (aA _ _ _ _) (cZ _ _ _ _) ?_;intro w2 t2 k2;have B2:=ae kb k2;clear k2 r1)
      |((with_reducible show wpList _ _ _ _ _ _);refine St.aI isS rl1 _ rl1 _ _ rl1 (by with_reducible exact t2) (aA _ _ _ _) ?_)
      |fail)
     refine(HCK.out _).mono ?_;rintro e w3 ⟨rfl,k3⟩;have B3:=ae B2 k3;clear t2 B2 k3;cases t with
     |true=>
      rw [ckT];have HOK:=bT (HT.out.1 rfl);go_wp2;go_roundw
      case rel=>exact⟨k+1,om1,by go_num,fun j hj=>(by
       by_cases e:j=k
       ·rw [e];exact HOK.out
       ·exact HJ.out j om1),B3⟩
      case measure=>simp [intOf];omega
     |false=>
      rw [ckF];have hbf:=NO'.out rfl;subst hbf;go_wp2;go_ret;exact⟨rfl,B3⟩
    ·obtain rfl:mm=k:=om1;have hbt:=YES.out ⟨by trivial,by trivial,HCH.out,hj⟩;subst hbt;clear hj;go_wp2;go_ret;exact⟨rfl,kb⟩
  |false=>
   have hbf:=NO.out (fun q=>by have:=h1.2 ⟨q.2.1.symm,q.2.2.1⟩;cases this);subst hbf;clear hl hs bs hb hz bX bF h1;go_enter Tryz.func34,Tryz.ntmps34
   go_wp2_with (first
    |(go_at_call 87;refine(HC.out _ B0).mono ?_;rintro e w1 ⟨rfl,k1⟩)
    |fail)
   go_ret;exact⟨rfl,ae B0 k1⟩
 ·have hbf:=NO.out (fun q=>hnm q.1);subst hbf;have e1:(((n:Nat):Int) !=((m:Nat):Int))=true:=by rw [bne_iff_ne];omega
  clear hl hs bs hb hz hnm bX bF;go_enter Tryz.func34,Tryz.ntmps34
  go_wp2;go_ret;exact⟨rfl,B0⟩
end
section
open Go.RowKit Vc Cn Mx St Mt Pd Im
attribute [local go_sem ↓] Go.wp_at_zero Go.wp_at_succ
namespace Im
abbrev mv(K V N:Int):List Value:= [.int .i64 K, .int .i64 V, .int .i64 N]
abbrev s0:List Value:=aB (fun _=>0) 0 0 (fun _=>0)
end Im
theorem WI(X:Nat->Int)(r c:Int)(z:Nat->Int)(K V N d:Int)(w:World)(hT: ¬Mo.qU d):
 Calls Tryz.prog 36 #[.agg (aB X r c z).toArray, .agg (mv K V N).toArray, .int .i64 d] w fun e w'=>e= .returned (.tuple #[.agg s0.toArray, .bool false, .iface 93 (.int .i64 1)])/\Below w.heap.size w w':=by
 have HS:Hid (∀ W,Calls Tryz.prog 28 #[.agg (mv K V N).toArray, .int .i64 d] W fun e w'=>e= .returned (.tuple #[.agg (aj 0 0 (fun _=>0)).toArray, .bool false, .iface 93 (.int .i64 1)])/\Below W.heap.size W w'):=fun W=>FQ K V N d W (.inr hT);have t0:=((aH w 55 (aB X r c z)).alloc (.cells (mv K V N).toArray 85)).alloc (.cells s0.toArray 55);have m0:=(bU w (.cells (aB X r c z).toArray 55) 85 (mv K V N)).alloc (.cells s0.toArray 55);have r0:=dH w (.cells (aB X r c z).toArray 55) (.cells (mv K V N).toArray 85) 55 s0;have B0:Below w.heap.size w (((w.alloc (.cells (aB X r c z).toArray 55)).alloc (.cells (mv K V N).toArray 85)).alloc (.cells s0.toArray 55)):=af (af (af (Below.refl _ _) _) _) _;obtain⟨W,hW⟩: ∃ W,W=((w.alloc (.cells (aB X r c z).toArray 55)).alloc (.cells (mv K V N).toArray 85)).alloc (.cells s0.toArray 55):=⟨_,rfl⟩;rw [← hW] at t0 m0 r0 B0;have HW:=bT hW;clear hW hT;go_enter Tryz.func36,Tryz.ntmps36
 go_wp2_with (first
  |(rw [zeroS];erw [← HW.out];refine St.aI Mo.Hu rl1 _ rl1 _ _ rl1 (by with_reducible exact m0) rfl ?_)
  |fail)
 refine(HS.out _).mono ?_;rintro e w1 ⟨rfl,k1⟩;have r1:=ai.keep r0 k1;have B1:=ae B0 k1;clear t0 m0 r0 B0 k1
 go_wp2_with (first
  |(rw [dY];refine Mt.aF rfl _ _ rl1 _ _ _ _ rl1 rl1 ?_;intro w2 q2 k2;have r2:=ai.keep r1 k2;have B2:=ae B1 k2;clear k2 r1 B1)
  |((with_reducible show wpList _ _ _ _ _ _);refine Pd.FP (by with_reducible rfl) rl1 ?_)
  |(refine St.aU isS rfl _ _ rl1 _ _ _ rl1 rl1 (by with_reducible exact r2) (aA _ _ _ _) (aA _ _ _ _) (cZ _ _ _ _) ?_)
  |fail)
 exact bodyPost_ret (dJ isS Tryz.results36 _ _ (w.heap.size+1+1) _ rfl (ai.row r2 _) (aA _ _ _ _)) rfl ⟨rfl,St.aJ B2 om1 _⟩
theorem Uj(X:Nat->Int)(P:Nat->Nat->Int)(K V N d:Int)(w:World)(hA:iM w)(hm:Pr.oK X P)(bX:B64 X)(bP:B2 P)(hM:Mo.CV K V N)(hT:Mo.qU d):
 Calls Tryz.prog 36 #[.agg (aB X 6 6 (mz 6 6 P)).toArray, .agg (mv K V N).toArray, .int .i64 d] w fun e w'=>e= .returned (.tuple #[.agg (aB (Pr.nX (Mo.pU K V d) X) 6 6 (mz 6 6 (Pr.nP (Mo.pU K V d) P (Mo.tw (Mo.nz K d N))))).toArray, .bool (Pr.oP (Mo.pU K V d) X P (Mo.tw (Mo.nz K d N))), .nilIface])/\Below w.heap.size w w':=by
 have HS:Hid (∀ W,iM W->Calls Tryz.prog 28 #[.agg (mv K V N).toArray, .int .i64 d] W fun e w'=>e= .returned (.tuple #[.agg (aj 6 6 (mz 6 6 (Mo.pU K V d))).toArray, .bool false, .nilIface])/\Below W.heap.size W w'):=fun W h=>Dp K V N d W h hM hT;have HN:Hid (∀ W,Calls Tryz.prog 29 #[.agg (mv K V N).toArray, .int .i64 d] W fun e w'=>e= .returned (.tuple #[.agg (aj 6 6 (mz 6 6 (Mo.tw (Mo.nz K d N)))).toArray, .bool false, .nilIface])/\Below W.heap.size W w'):=fun W=>BV K V N d W hM hT;have HX:=bT (fun W=>SC X P (Mo.pU K V d) (Mo.tw (Mo.nz K d N)) W hm bX bP (Mo.aab hM hT) (Mo.nz_b2 K hT hM.1));have HA:=bT hA;obtain⟨zP,hzP⟩: ∃ q,q=mz 6 6 P:=⟨_,rfl⟩;obtain⟨zF,hzF⟩: ∃ q,q=mz 6 6 (Mo.pU K V d):=⟨_,rfl⟩;obtain⟨zQ,hzQ⟩: ∃ q,q=mz 6 6 (Mo.tw (Mo.nz K d N)):=⟨_,rfl⟩;obtain⟨zN,hzN⟩: ∃ q,q=mz 6 6 (Pr.nP (Mo.pU K V d) P (Mo.tw (Mo.nz K d N))):=⟨_,rfl⟩;obtain⟨Y,hY⟩: ∃ q,q=Pr.nX (Mo.pU K V d) X:=⟨_,rfl⟩;obtain⟨o,ho⟩: ∃ q,q=Pr.oP (Mo.pU K V d) X P (Mo.tw (Mo.nz K d N)):=⟨_,rfl⟩;rw [← hzF] at HS;rw [← hzQ] at HN;rw [← hzP,← hzF,← hzQ,← hzN,← hY,← ho] at HX;rw [← hzP,← hzN,← hY,← ho];clear hzP hzF hzQ hzN hY ho hA hm bX bP hM hT;have t0:=((aH w 55 (aB X 6 6 zP)).alloc (.cells (mv K V N).toArray 85)).alloc (.cells s0.toArray 55);have m0:=(bU w (.cells (aB X 6 6 zP).toArray 55) 85 (mv K V N)).alloc (.cells s0.toArray 55);have r0:=dH w (.cells (aB X 6 6 zP).toArray 55) (.cells (mv K V N).toArray 85) 55 s0;have B0:Below w.heap.size w (((w.alloc (.cells (aB X 6 6 zP).toArray 55)).alloc (.cells (mv K V N).toArray 85)).alloc (.cells s0.toArray 55)):=af (af (af (Below.refl _ _) _) _) _;obtain⟨W,hW⟩: ∃ W,W=((w.alloc (.cells (aB X 6 6 zP).toArray 55)).alloc (.cells (mv K V N).toArray 85)).alloc (.cells s0.toArray 55):=⟨_,rfl⟩;rw [← hW] at t0 m0 r0 B0;have HW:=bT hW;clear hW;go_enter Tryz.func36,Tryz.ntmps36
 go_wp2_with (first
  |(rw [zeroS];erw [← HW.out];refine St.aI Mo.Hu rl1 _ rl1 _ _ rl1 (by with_reducible exact m0) rfl ?_)
  |fail)
 refine(HS.out _ (HA.out.below B0)).mono ?_;rintro e w1 ⟨rfl,k1⟩;have t1:=ai.keep t0 k1;have m1:=ai.keep m0 k1;have r1:=ai.keep r0 k1;have B1:=ae B0 k1;clear t0 m0 r0 B0 k1 HS HW HA
 go_wp2_with (first
  |(rw [dY];refine Mt.aF rfl _ _ rl1 _ _ _ _ rl1 rl1 ?_;intro w2 q2 k2;have t2:=ai.keep t1 k2;have m2:=ai.keep m1 k2;have r2:=ai.keep r1 k2;have B2:=ae B1 k2;clear k2 t1 m1 r1 B1)
  |(refine St.aI Mo.Hu rl1 _ rl1 _ _ rl1 (by with_reducible exact m2) rfl ?_)
  |fail)
 refine(HN.out _).mono ?_;rintro e w3 ⟨rfl,k3⟩;have t3:=ai.keep t2 k3;have r3:=ai.keep r2 k3;have q3:=q2.keep k3;have B3:=ae B2 k3;clear t2 m2 r2 q2 B2 k3 HN
 go_wp2_with (first
  |(rw [dY];refine Mt.aF rfl _ _ rl1 _ _ _ _ rl1 rl1 ?_;intro w4 n4 k4;have t4:=ai.keep t3 k4;have q4:=q3.keep k4;have r4:=ai.keep r3 k4;have B4:=ae B3 k4;clear k4 t3 q3 r3 B3)
  |(refine St.aI isS rl1 _ rl1 _ _ rl1 (by with_reducible exact t4) (aA _ _ _ _) ?_)
  |(refine Hk.fP _ (by with_reducible rfl) _ _ _ _ rl1 (by with_reducible exact q4) (by kernel_rfl) ?_)
  |(refine Hk.fP _ (by with_reducible rfl) _ _ _ _ rl1 (by with_reducible exact n4) (by kernel_rfl) ?_)
  |fail)
 refine(HX.out _).mono ?_;rintro e w5 ⟨rfl,k5⟩;have r5:=ai.keep r4 k5;have B5:=ae B4 k5;clear t4 q4 n4 r4 B4 k5 HX
 go_wp2_with (first
  |(rw [zeroS];refine St.aF isS rfl _ _ rl1 _ _ _ rl1 rl1 (aA _ _ _ _) (aA _ _ _ _) (cZ _ _ _ _) ?_;intro w6 u6 k6;have r6:=ai.keep r5 k6;have B6:=ae B5 k6;clear k6 r5 B5)
  |(refine St.aI isS rl1 _ rl1 _ _ rl1 (by with_reducible exact u6) (aA _ _ _ _) ?_)
  |(refine St.aU isS rfl _ _ rl1 _ _ _ rl1 rl1 (by with_reducible exact r6) (aA _ _ _ _) (aA _ _ _ _) (cZ _ _ _ _) ?_)
  |fail)
 exact bodyPost_ret (dJ isS Tryz.results36 _ _ (w.heap.size+1+1) _ rfl (ai.row r6 _) (aA _ _ _ _)) rfl ⟨by simp,St.aJ B6 om1 _⟩
end
section
open Go.RowKit Vc Cn St Qn Lk Gw
namespace Lk
theorem Nh{n:Int}(h: -4611686018427387903<=n/\n<=4611686018427387903):great n=false:=by unfold great;rw [decide_eq_false om1,decide_eq_false om1];rfl
theorem Uk{n:Int}(h: ¬(-4611686018427387903<=n/\n<=4611686018427387903)):great n=true:=by
 unfold great;by_cases q:n< -4611686018427387903
 · rw [decide_eq_true q,Bool.or_true]
 · rw [decide_eq_true (show 4611686018427387903<n by omega),Bool.true_or]
theorem aaN{l c:Nat->Int}{n k:Nat}(h:c k=0):wo l c n (k+1)=wo l c n k:=by
 show(wo l c n k||(!decide (c k=0) && _))=_;rw [decide_eq_true h];simp
theorem aaO{l c:Nat->Int}{n k:Nat}(h: ¬c k=0):wo l c n (k+1)=(wo l c n k||great (l k- l (bl l c n).toNat)):=by
 show(wo l c n k||(!decide (c k=0) && _))=_;rw [decide_eq_false h];simp
end Lk
theorem Nj(W:World)(lo co:Option Addr)(n cl m cc:Nat)(l c:Nat->Int)(hl:Sl W lo n cl l)(bl':B64 l)(hc:Sl W co m cc c)(bc:B64 c)(b:Bool)
 (hy:b=true->n=m/\Ch m c 0/\ ∀ k,k<n-> -4611686018427387903<=l k/\l k<=4611686018427387903) (hn:b=false-> ¬(n=m/\Ch m c 0/\ ∀ k,k<n-> -4611686018427387903<=l k/\l k<=4611686018427387903)):
 Calls Tryz.prog 120 #[.slice lo n cl, .slice co m cc] W fun e w'=>e= .returned (.bool b)/\Below W.heap.size W w':=by
 have l1:=hl.le;have l2:=hl.cap;have l3:=hc.le;have l4:=hc.cap;by_cases hnm:n=m
 ·subst hnm;have HC:=df (FY W co n cc c 0 hc bc om1 om1);obtain⟨x,hao,hca⟩:=hl.get;have HAO:=df hao;have HCA:=df hca;have HB:=df bl';have HY:=df hy;have HN:=df hn;clear hao hca hl hc bl' bc hy hn;go_enter Tryz.func120,Tryz.ntmps120
  go_wp2_with (go_at_call 172;refine HC.out.mono ?_;rintro e w1 ⟨ev,rfl,k1,⟨hch,rfl⟩|⟨hch,rfl⟩⟩)
  ·have HCH:=df hch;have HK:=df k1;clear k1 hch;go_loopw [21] (fun i wr=> ∃ k:Nat,k<=n/\i= .int .i64 (k:Int)/\wr=w1/\Hid (∀ j,j<k-> -4611686018427387903<=l j/\l j<=4611686018427387903)) (fun i _=>n- (intOf i).toNat)
   case atStart=>exact⟨0,om1,rfl,rfl,fun j hj=>by omega⟩
   case round=>
    obtain⟨k,hk,rfl,rfl,hin⟩:=hrel;by_cases h:k<n
    ·obtain rfl:=HAO.out om1;have ca':=ah HK.out (HCA.out k h);have HQ:=df (fun W=>wu (l k) W);by_cases q: -4611686018427387903<=l k/\l k<=4611686018427387903
     ·have HZ':Hid (∀ j,j<k+1-> -4611686018427387903<=l j/\l j<=4611686018427387903):=fun j hj=>by
       by_cases e:j=k
       ·rw [e];exact q
       ·exact hin.out j om1
      rw [Nh q] at HQ;obtain⟨P,hP⟩: ∃ P,P=l k:=⟨_,rfl⟩;rw [← hP] at ca' HQ;obtain⟨P',hP'⟩: ∃ P',P'=clamp P:=⟨_,rfl⟩;rw [← hP'] at HQ;clear hP hP' hin q;go_wp2_with (go_at_call 205;refine(HQ.out _).mono ?_;rintro e w' ⟨rfl,q⟩;obtain rfl:=q.symm)
      go_roundw
      case rel=>exact⟨k+1,om1,by go_num,trivial,HZ'⟩
      case measure=>simp [intOf];omega
     ·have hb:b=false:=by
       cases hb:b with
       |false=>rfl
       |true=>exact absurd ((HY.out hb).2.2 k h) q
      subst hb;rw [Uk q] at HQ;obtain⟨P,hP⟩: ∃ P,P=l k:=⟨_,rfl⟩;rw [← hP] at ca' HQ;obtain⟨P',hP'⟩: ∃ P',P'=clamp P:=⟨_,rfl⟩;rw [← hP'] at HQ;clear hP hP' hin q;go_wp2_with (go_at_call 205;refine(HQ.out _).mono ?_;rintro e w' ⟨rfl,q⟩;obtain rfl:=q.symm)
      go_ret;exact⟨rfl,HK.out⟩
    ·obtain rfl:k=n:=om1
     have hb:b=true:=by
      cases hb:b with
      |true=>rfl
      |false=>exact absurd ⟨trivial,HCH.out,hin.out⟩ (HN.out hb)
     subst hb;go_wp2;go_ret;exact⟨rfl,HK.out⟩
  ·have hb:b=false:=by
    cases hb:b with
    |false=>rfl
    |true=>exact absurd (HY.out hb).2.1 hch
   subst hb;unfold Cb;go_wp2;go_ret;exact⟨rfl,k1⟩
 ·have hb:b=false:=by
   cases hb:b with
   |false=>rfl
   |true=>exact absurd (hy hb).1 hnm
  subst hb;have e1:((n:Int)==(m:Int))=false:=beq_eq_false_iff_ne.2 (fun q=>hnm om1);have e2:((n:Int) !=(m:Int))=true:=by rw [bne,e1];rfl
  clear hl hc bl' bc hy hn;go_enter Tryz.func120,Tryz.ntmps120
  go_wp2_with fail
  go_ret;exact⟨rfl,Below.refl _ _⟩
theorem Dq(x y:Addr)(n ca cb:Nat)(l c:Nat->Int)(w:World)(h1:n<=ca)(h2:ca<=9223372036854775807)(h3:n<=cb)(h4:cb<=9223372036854775807)(hl: ∀ k,k<n->w.cell? (x.add k)=some (.int .i64 (l k)))(hc: ∀ k,k<n->w.cell? (y.add k)=some (.int .i64 (c k))):
 Calls Tryz.prog 206 #[.slice (some x) n ca, .slice (some y) n cb] w fun e w'=>e= .returned (.int .i64 (tp l c n))/\w'=w:=by
 have HL:=df hl;have HC:=df hc;obtain⟨R,hR⟩: ∃ R,R=tp l c n:=⟨_,rfl⟩;rw [← hR];have HR:=df hR;clear hl hc hR;go_enter Tryz.func206,Tryz.ntmps206
 go_wp2;go_loopw [5,10] (fun m i wr=> ∃ k:Nat,k<=n/\i= .int .i64 (k:Int)/\m= .int .i64 (tp l c k)/\wr=w) (fun _ i _=>n- (intOf i).toNat)
 case atStart=>exact⟨0,om1,rfl,rfl,rfl⟩
 case round=>
  obtain⟨k,hk,rfl,rfl,rfl⟩:=hrel;by_cases h:k<n
  · have c1:=HL.out k h;have c2:=HC.out k h;have HU1:Hid (0<c k->tp l c (k+1)=max (tp l c k) (l k)):=Na;have HU2:Hid (¬0<c k->tp l c (k+1)=tp l c k):=aaG;obtain⟨P,hP⟩: ∃ P,P=l k:=⟨_,rfl⟩;obtain⟨C,hC⟩: ∃ P,P=c k:=⟨_,rfl⟩;obtain⟨T,hT⟩: ∃ T,T=tp l c k:=⟨_,rfl⟩;rw [← hP] at c1 HU1;rw [← hC] at c2 HU1 HU2;rw [← hT] at HU1 HU2 ⊢;clear hP hT hC;by_cases c0:0<C
    · have e0:decide (C>0)=true:=decide_eq_true c0;have HU:=df (HU1.out c0);clear HU1 HU2;rcases Int.lt_or_le T P with c3|c3
      · have e2:max T P=P:=om1;rw [e2] at HU;go_wp2;go_roundw
        case rel=>exact⟨k+1,om1,by go_num,by rw [HU.out],trivial⟩
        case measure=>simp [intOf];omega
      · have e2:max T P=T:=om1;rw [e2] at HU;go_wp2;go_roundw
        case rel=>exact⟨k+1,om1,by go_num,by rw [HU.out],trivial⟩
        case measure=>simp [intOf];omega
    · have e0:decide (C>0)=false:=decide_eq_false c0;have HU:=df (HU2.out c0);clear HU1 HU2;go_wp2;go_roundw
      case rel=>exact⟨k+1,om1,by go_num,by rw [HU.out],trivial⟩
      case measure=>simp [intOf];omega
  · obtain rfl:k=n:=om1;rw [← HR.out];go_wp2;go_ret;exact⟨rfl,rfl⟩
theorem IJ(x y:Addr)(n ca cb:Nat)(l c:Nat->Int)(w:World)(hm:Qh n l c 0)(h1:n<=ca)(h2:ca<=9223372036854775807)(h3:n<=cb)(h4:cb<=9223372036854775807)(hl: ∀ k,k<n->w.cell? (x.add k)=some (.int .i64 (l k)))(hc: ∀ k,k<n->w.cell? (y.add k)=some (.int .i64 (c k))):
 Calls Tryz.prog 121 #[.slice (some x) n ca, .slice (some y) n cb] w fun e w'=> ∃ g:Nat,e= .returned (.tuple #[.slice (some ⟨g,0,none⟩) n n, .bool (wo l c n n)])/\ai w' g 2 (vals n (wz l c n))/\w.heap.size<=g/\Below w.heap.size w w':=by
 have HK:=df (Dq x y n ca cb l c w h1 h2 h3 h4 hl hc);rw [tp_is hm] at HK;have hmi:=J8 n hm.ch.four;have HL:=df hl;have HC:=df hc;have HD:Hid (∀ k,k<n->c k≠0->clamp (l k- l (bl l c n).toNat)<=0):=fun k hk h0=>YS hm hk h0;have HE:Hid (∀ k,k<n-> -4611686018427387903<=l k/\l k<=4611686018427387903):=hm.each;have HN:Hid (∀ k,k<n->0<=c k/\c k<=1073741824):=fun k hk=>hm.ch.nn hk;have HT: -4611686018427387903<=l (bl l c n).toNat/\l (bl l c n).toNat<=4611686018427387903:=hm.each _ (Nz hm).2.1
 have HW:Hid (∀ k,k<n->wz l c n k=if c k=0 then 0 else ex (clamp (l k- l (bl l c n).toNat))*c k):=fun k hk=>by
  unfold wz;by_cases q:c k=0
  ·rw [if_pos (Or.inl q),if_pos q]
  ·rw [if_neg om1,if_neg q]
 have HO1:Hid (∀ k,c k=0->wo l c n (k+1)=wo l c n k):=fun k h=>aaN h;have HO2:Hid (∀ k,¬c k=0->wo l c n (k+1)=(wo l c n k||great (l k- l (bl l c n).toNat))):=fun k h=>aaO h;have hm4:=hm.ch.four;obtain⟨T,hT⟩: ∃ T,T=l (bl l c n).toNat:=⟨_,rfl⟩;obtain⟨O,hO⟩: ∃ O,O=wo l c n:=⟨_,rfl⟩;obtain⟨Z,hZ⟩: ∃ Z,Z=wz l c n:=⟨_,rfl⟩;rw [← hT] at HK HD HT HW HO2;rw [← hO] at HO1 HO2;rw [← hZ] at HW;have HO0:Hid (O 0=false):=by rw [hO];rfl
 rw [← hO,← hZ];have HA0:=df (aH w 2 (vals n (fun _=>0)));have HB0:=df (af (Below.refl _ w) (.cells (vals n (fun _=>0)).toArray 2));clear hT hO hZ hm hl hc;go_enter Tryz.func121,Tryz.ntmps121
 go_wp2_with (go_at_call 206;refine HK.out.mono ?_;rintro e w' ⟨rfl,q⟩;obtain rfl:=q.symm)
 go_loopw [7,23] (fun o i wr=> ∃ (k:Nat) (zo:Nat->Int),k<=n/\i= .int .i64 (k:Int)/\o= .bool (O k)/\(∀ j,j<k->zo j=Z j)/\(∀ j,k<=j->zo j=0)/\ai wr w.heap.size 2 (vals n zo)/\Below w.heap.size w wr) (fun _ i _=>n- (intOf i).toNat)
 case atStart=>exact⟨0,fun _=>0,om1,rfl,by rw [HO0.out],fun j hj=>by omega,fun j hj=>rfl,HA0.out,HB0.out⟩
 case round=>
  rename World=>wr;obtain⟨k,zo,hk,rfl,rfl,hz1,hz2,nA,kr⟩:=hrel;by_cases h:k<n
  ·have c1:=ah kr (HL.out k h);have c2:=ah kr (HC.out k h);have HZ1:=df hz1;have HZ2:=df hz2;have HWk:=df (HW.out k h);by_cases q:c k=0
   ·have HOk:=df (HO1.out k q);rw [q] at c2;rw [if_pos q] at HWk
    have HZ1':Hid (∀ j,j<k+1->zo j=Z j):=fun j hj=>by
     by_cases e:j=k
     ·rw [e,HWk.out,HZ2.out k (Nat.le_refl _)]
     ·exact HZ1.out j om1
    have HZ2':Hid (∀ j,k+1<=j->zo j=0):=fun j hj=>HZ2.out j om1;have HNA:=df nA;have HKR:=df kr;obtain⟨P,hP⟩: ∃ P,P=l k:=⟨_,rfl⟩;rw [← hP] at c1;clear hP hz1 hz2 nA kr q;go_wp2;go_roundw
    case rel=>exact⟨k+1,zo,om1,by go_num,by rw [HOk.out],HZ1'.out,HZ2'.out,HNA.out,HKR.out⟩
    case measure=>simp [intOf];omega
   ·have HOk:=df (HO2.out k q);rw [if_neg q] at HWk;have hd:=HD.out k h q;have hl:=HE.out k h;have hcn:=HN.out k h;have hcl:=ku (l k- T);have hex:=ex_in hd;have HS:=df (fun W=>nU (l k) T W om1 om1 om1 om1);have HX:=df (fun W=>VL (clamp (l k- T)) W hd om1);have hpr:0<=ex (clamp (l k- T))*c k/\ex (clamp (l k- T))*c k<=1073741824*1073741824:=⟨Int.mul_nonneg hex.1 hcn.1,Int.mul_le_mul hex.2 hcn.2 hcn.1 om1⟩;obtain⟨P,hP⟩: ∃ P,P=l k:=⟨_,rfl⟩;obtain⟨C,hC⟩: ∃ C,C=c k:=⟨_,rfl⟩;rw [← hP] at c1 HS HX HWk HOk hpr hd;rw [← hC] at c2 HWk hpr q;obtain⟨E,hE⟩: ∃ E,E=ex (clamp (P- T)):=⟨_,rfl⟩;obtain⟨G,hG⟩: ∃ G,G=great (P- T):=⟨_,rfl⟩;rw [← hE] at HX HWk hpr;rw [← hG] at HS HOk;obtain⟨D,hD⟩: ∃ D,D=clamp (P- T):=⟨_,rfl⟩;rw [← hD] at HS HX;obtain⟨M,hM⟩: ∃ M,M=E*C:=⟨_,rfl⟩;have HM:Hid (E*C=M):=hM.symm;rw [← hM] at hpr HWk;have e1:(C==0)=false:=beq_eq_false_iff_ne.2 q;have e2:IntKind.i64.wrap (E*C)=M:=by rw [HM.out,IntKind.wrap_i64];omega
    have HZ1':Hid (∀ j,j<k+1->(if j=k then M else zo j)=Z j):=fun j hj=>by
     by_cases e:j=k
     ·rw [if_pos e,e,HWk.out]
     ·rw [if_neg e];exact HZ1.out j om1
    have HZ2':Hid (∀ j,k+1<=j->(if j=k then M else zo j)=0):=fun j hj=>by rw [if_neg om1];exact HZ2.out j om1
    have HNA:=df nA;have HKR:=df kr;have HZK:=df (HZ2.out k (Nat.le_refl _));clear hP hC hE hG hD hM hz1 hz2 nA kr hl hcn hcl hex hd;obtain⟨B,hB⟩: ∃ B,B=O k:=⟨_,rfl⟩;rw [← hB] at HOk ⊢;clear hB;cases B
    all_goals
     go_wp2_with (first
      |(go_at_call 207;refine(HS.out _).mono ?_;rintro e w1 ⟨rfl,k1⟩;have n1:=ai.keep HNA.out k1;have b1:=Below.trans HKR.out (k1.mono (HKR.out).size);have c3:=ah k1 c2;clear c1 c2 k1)
      |(go_at_call 208;refine(HX.out _).mono ?_;rintro e w2 ⟨rfl,k2⟩;have n2:=ai.keep n1 k2;have b2:=Below.trans b1 (k2.mono b1.size);have c4:=ah k2 c3;have d1:=n2.cell (dI (z:=zo) h) rfl;rw [HZK.out] at d1;have f1:=n2.free k;clear c3 k2 n1 b1))
     go_roundw
     case rel=>exact⟨k+1,fun j=>if j=k then M else zo j,om1,by go_num,by rw [HOk.out];rfl,HZ1'.out,HZ2'.out,by rw [← fG];exact n2.set k _,b2.trans (St.dB (B:=w.heap.size) (w:=w2) (x:=⟨w.heap.size,k,none⟩) b2.size (Nat.le_refl _) _)⟩
     case measure=>simp [intOf];omega
  ·obtain rfl:n=k:=om1;have e:=dZ (n:=n) (z:=zo) (z':=Z) (fun j hj=>hz1 j hj);rw [e] at nA;clear hz1 hz2 e;go_wp2;go_ret2;exact⟨_,rfl,nA,Nat.le_refl _,kr⟩
end
end Go.Proofs.YtcefcokpjbebhaaGreatDoor
