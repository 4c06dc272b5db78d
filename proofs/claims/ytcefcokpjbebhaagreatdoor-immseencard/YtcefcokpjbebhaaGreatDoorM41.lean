/-
  Package imm (layer 17): One; Same, by the library's slices.EqualFunc and slices.Equal.
-/
import Derived.Test.YtcefcokpjbebhaaGreatDoorM39
import Derived.Test.YtcefcokpjbebhaaGreatDoorM40
set_option linter.unusedSimpArgs false
set_option linter.unusedVariables false
set_option maxHeartbeats 8000000
set_option maxRecDepth 20000
namespace Go.Proofs.YtcefcokpjbebhaaGreatDoor
section
open Go.RowKit Vc Cn Mx St Mt Pd Im
attribute [local go_sem ↓] Go.wp_at_zero Go.wp_at_succ
theorem OU(ao bo:Option Addr)(n ca cb:Nat)(z:Nat->Int)(w:World)(ha:Sl w ao n ca z)(hb:Sl w bo n cb z):
 Calls Tryz.prog 56 #[.slice ao n ca, .slice bo n cb] w fun e w'=>e= .returned (.bool true)/\Below w.heap.size w w':=by
 obtain⟨xa,hao,hca⟩:=ha.get;obtain⟨xb,hbo,hcb⟩:=hb.get;have h1:=ha.le;have h2:=ha.cap;have h3:=hb.le;have h4:=hb.cap;have HAO:=Im.bT hao;have HBO:=Im.bT hbo;have HCA:=Im.bT hca;have HCB:=Im.bT hcb;clear hao hbo hca hcb ha hb;go_enter Tryz.func56,Tryz.ntmps56
 go_wp2;go_loopw [13] (fun i wr=> ∃ k:Nat,k<=n/\i= .int .i64 (k:Int)/\Below w.heap.size w wr) (fun i _=>n- (intOf i).toNat)
 case atStart=>exact⟨0,om1,rfl,Below.refl _ _⟩
 case round=>
  obtain⟨k,hk,rfl,hbel⟩:=hrel;by_cases h:k<n
  · obtain rfl:=HAO.out om1;obtain rfl:=HBO.out om1;have ca':=ah hbel (HCA.out k h);have cb':=ah hbel (HCB.out k h);obtain⟨P,hP⟩: ∃ P,P=z k:=⟨_,rfl⟩;rw [← hP] at ca' cb';clear hP;go_wp2;go_quiet (fail)
    go_wp2;go_roundw
    case rel=>exact⟨k+1,om1,by go_num,Vc.below_drewN hbel _⟩
    case measure=>simp [intOf];omega
  · obtain rfl:k=n:=om1;go_wp2;go_ret;exact⟨rfl,hbel⟩
theorem Kw(lo lo':Option Addr)(n cm cm':Nat)(X:Nat->Nat->Int)(r c:Nat->Int)(z:Nat->Nat->Int)(w:World)(ha:Pst w lo n cm X r c z)(hb:Pst w lo' n cm' X r c z):
 Calls Tryz.prog 55 #[.slice lo n cm, .slice lo' n cm', .func (.func 31) #[] #[]] w fun e w'=>e= .returned (.bool true)/\Below w.heap.size w w':=by
 have l1:=ha.le;have l2:=ha.cap;have l3:=hb.le;have l4:=hb.cap;obtain⟨g,hlo,hg⟩:=ha.get;obtain⟨g',hlo',hg'⟩:=hb.get;have HX:=Im.bT hlo;have HY:=Im.bT hlo';have HG:=Im.bT hg;have HG':=Im.bT hg';have HS:=Im.bT (fun X r c z w=>RS X r c z X r c z w);clear ha hb hlo hlo' hg hg';go_enter Tryz.func55,Tryz.ntmps55
 go_wp2_with fail
 go_loopw [17] (fun i wr=> ∃ k:Nat,k<=n/\i= .int .i64 (k:Int)/\Below w.heap.size w wr) (fun i _=>n- (intOf i).toNat)
 case atStart=>exact⟨0,om1,rfl,Below.refl _ _⟩
 case round=>
  rename World=>wr;obtain⟨k,hk,rfl,kb⟩:=hrel;by_cases h:k<n
  ·obtain rfl:=HX.out om1;obtain rfl:=HY.out om1;have r1:wr.rangeAt g (k*44) (aB (X k) (r k) (c k) (z k)):=fun j v hv=>ah kb (HG.out k h j v hv);have q1:wr.rangeAt g' (k*44) (aB (X k) (r k) (c k) (z k)):=fun j v hv=>ah kb (HG'.out k h j v hv);have kn:(k:Int)<n:=om1;have HSk:=Im.bT (HS.out (X k) (r k) (c k) (z k));obtain⟨Xk,hXk⟩: ∃ q,q=X k:=⟨_,rfl⟩;obtain⟨rk,hrk⟩: ∃ q,q=r k:=⟨_,rfl⟩;obtain⟨ck,hck'⟩: ∃ q,q=c k:=⟨_,rfl⟩;obtain⟨zk,hzk⟩: ∃ q,q=z k:=⟨_,rfl⟩;rw [← hXk,← hrk,← hck',← hzk] at HSk;rw [← hXk,← hrk,← hck',← hzk] at r1 q1;rw [V5] at HSk;clear hXk hrk hck' hzk
   go_wp2_with (first
    |((with_reducible show wpList _ _ _ _ _ _);refine St.dA isS rl1 _ rl1 _ _ _ rl1 (by with_reducible exact r1) (aA _ _ _ _) ?_)
    |(rw [zeroS];refine St.aF isS rfl _ _ rl1 _ _ _ rl1 rl1 (aA _ _ _ _) (aA _ _ _ _) (cZ _ _ _ _) ?_;intro w2 t2 k2;have B2:=ae kb k2;have q2:w2.rangeAt g' (k*44) (aB Xk rk ck zk):=(fun j v hv=>ah k2 (q1 j v hv));clear k2 r1 q1)
    |((with_reducible show wpList _ _ _ _ _ _);refine St.dA isS rl1 _ rl1 _ _ _ rl1 (by with_reducible exact q2) (aA _ _ _ _) ?_)
    |(rw [zeroS];refine St.aF isS rfl _ _ rl1 _ _ _ rl1 rl1 (aA _ _ _ _) (aA _ _ _ _) (cZ _ _ _ _) ?_;intro w3 u3 k3;have B3:=ae B2 k3;have t3:=ai.keep t2 k3;clear k3 q2 t2 B2)
    |((with_reducible show wpList _ _ _ _ _ _);refine St.aI isS rl1 _ rl1 _ _ rl1 (by with_reducible exact t3) (aA _ _ _ _) ?_)
    |((with_reducible show wpList _ _ _ _ _ _);refine St.aI isS rl1 _ rl1 _ _ rl1 (by with_reducible exact u3) (aA _ _ _ _) ?_)
    |fail)
   refine(HSk.out _).mono ?_;rintro e w4 ⟨rfl,k4⟩;have B4:=ae B3 k4;clear t3 u3 B3 k4;go_wp2;go_roundw
   case rel=>exact⟨k+1,om1,by go_num,B4⟩
   case measure=>simp [intOf];omega
  ·obtain rfl:n=k:=om1;go_wp2;go_ret;exact⟨rfl,kb⟩
theorem aaU:ISame:=by
 intro W lo lo' ho ho' n cm cm' m hc hc' X r c z ch ha hb sa sb;have t0:=(aH W 34 [.slice lo n cm, .slice ho m hc]).alloc (.cells [.slice lo' n cm', .slice ho' m hc'].toArray 34);have u0:=bU W (.cells [.slice lo n cm, .slice ho m hc].toArray 34) 34 [.slice lo' n cm', .slice ho' m hc'];have B0:Below W.heap.size W ((W.alloc (.cells [.slice lo n cm, .slice ho m hc].toArray 34)).alloc (.cells [.slice lo' n cm', .slice ho' m hc'].toArray 34)):=af (af (Below.refl _ _) _) _;obtain⟨w0,hw0⟩: ∃ w0,w0=(W.alloc (.cells [.slice lo n cm, .slice ho m hc].toArray 34)).alloc (.cells [.slice lo' n cm', .slice ho' m hc'].toArray 34):=⟨_,rfl⟩;rw [← hw0] at t0 u0 B0;have HW:=Im.bT hw0;have d0:w0.cell? ⟨W.heap.size,0,none⟩=some (.slice lo n cm):=ai.cell t0 (k:=0) rfl rfl;have d1:w0.cell? ⟨W.heap.size+1,0,none⟩=some (.slice lo' n cm'):=ai.cell u0 (k:=0) rfl rfl;have HF:=Im.bT (Kw lo lo' n cm cm' X r c z w0 (ha.keep B0) (hb.keep B0));have HE:=Im.bT (fun w (k:Below W.heap.size W w)=>OU ho ho' m hc hc' ch w (sa.keep k) (sb.keep k));clear hw0 ha hb sa sb;go_enter Tryz.func20,Tryz.ntmps20
 go_wp2_with (first|(rw [← HW.out])|fail)
 refine HF.out.mono ?_;rintro e w1 ⟨rfl,k1⟩;have c0:w1.cell? ⟨W.heap.size,1,none⟩=some (.slice ho m hc):=ai.cell (ai.keep t0 k1) (k:=1) rfl rfl;have c1:w1.cell? ⟨W.heap.size+1,1,none⟩=some (.slice ho' m hc'):=ai.cell (ai.keep u0 k1) (k:=1) rfl rfl;have B1:=ae B0 k1;clear t0 u0 B0 d0 d1 k1 HF HW;go_wp2_with fail
 refine(HE.out _ B1).mono ?_;rintro e w2 ⟨rfl,k2⟩;go_wp2;go_ret;exact⟨rfl,ae B1 k2⟩
theorem im_one:IOne:=by
 intro W s hs;obtain⟨lo,n,cm,ho,m,hc,X,r,c,z,F,ch⟩:=s;obtain⟨hl,hz,bX,bF,hs,bs⟩:=hs
 show Calls Tryz.prog _ #[.agg #[.slice lo n cm, .slice ho m hc]] W fun e w'=>Below W.heap.size W w'/\
  ((¬uC n m ch X r c F/\e= .returned (.tuple #[.agg (Pd.aB (fun _=>0) 0 0 (fun _=>0)).toArray, .bool false,FX 1]))\/
   (uC n m ch X r c F/\e= .returned (.tuple #[.agg (Pd.aB (jX n ch X) 6 6 (mz 6 6 (jP n ch X F))).toArray, .bool (jO n ch X F), .nilIface])))
 replace hl:Pst W lo n cm X r c z:=hl;replace hz: ∀ k,k<n->r k=6->c k=6->z k=mz 6 6 (F k):=hz;replace hs:Sl W ho m hc ch:=hs;have t0:=(aH W 34 [.slice lo n cm, .slice ho m hc]).alloc (.cells (aB (fun _=>0) 0 0 (fun _=>0)).toArray 55);have r0:=bU W (.cells [.slice lo n cm, .slice ho m hc].toArray 34) 55 (aB (fun _=>0) 0 0 (fun _=>0));have B0:Below W.heap.size W ((W.alloc (.cells [.slice lo n cm, .slice ho m hc].toArray 34)).alloc (.cells (aB (fun _=>0) 0 0 (fun _=>0)).toArray 55)):=af (af (Below.refl _ _) _) _;obtain⟨w0,hw0⟩: ∃ w0,w0=(W.alloc (.cells [.slice lo n cm, .slice ho m hc].toArray 34)).alloc (.cells (aB (fun _=>0) 0 0 (fun _=>0)).toArray 55):=⟨_,rfl⟩;rw [← hw0] at t0 r0 B0;have HW:=Im.bT hw0;have d0:w0.cell? ⟨W.heap.size,0,none⟩=some (.slice lo n cm):=ai.cell t0 (k:=0) rfl rfl;have d1:w0.cell? ⟨W.heap.size,1,none⟩=some (.slice ho m hc):=ai.cell t0 (k:=1) rfl rfl;have HJ:=Im.bT (aaS w0 lo ho n cm m hc X r c z F ch (hl.keep B0) hz bX bF (hs.keep B0) bs);clear hw0 hl hz bX bF hs bs t0;go_enter Tryz.func16,Tryz.ntmps16
 go_wp2_with (first|(rw [zeroS];erw [← HW.out])|fail)
 refine HJ.out.mono ?_;rintro e w1 ⟨k1,⟨hn,rfl⟩|⟨hy,rfl⟩⟩
 · have r1:=ai.keep r0 k1;have B1:=ae B0 k1;have HN:=Im.bT hn;clear r0 B0 k1 d0 d1 HJ HW hn
   go_wp2_with (first
    |(refine St.aU isS rfl _ _ rl1 _ _ _ rl1 rl1 (by with_reducible exact r1) (aA _ _ _ _) (aA _ _ _ _) (cZ _ _ _ _) ?_)
    |fail)
   exact bodyPost_ret (dJ isS Tryz.results16 _ _ (W.heap.size+1) _ rfl (ai.row r1 _) (aA _ _ _ _)) rfl ⟨St.aJ B1 om1 _,Or.inl ⟨HN.out,rfl⟩⟩
 · have r1:=ai.keep r0 k1;have B1:=ae B0 k1;have HY:=Im.bT hy;obtain⟨Y,hY⟩: ∃ q,q=jX n ch X:=⟨_,rfl⟩;obtain⟨zP,hzP⟩: ∃ q,q=mz 6 6 (jP n ch X F):=⟨_,rfl⟩;obtain⟨yO,hyO⟩: ∃ q,q=jO n ch X F:=⟨_,rfl⟩;rw [← hY,← hzP,← hyO];have EY:=Im.bT hY;have EZ:=Im.bT hzP;have EO:=Im.bT hyO;clear r0 B0 k1 d0 d1 HJ HW hy hY hzP hyO
   go_wp2_with (first
    |(refine St.aU isS rfl _ _ rl1 _ _ _ rl1 rl1 (by with_reducible exact r1) (aA _ _ _ _) (aA _ _ _ _) (cZ _ _ _ _) ?_)
    |fail)
   exact bodyPost_ret (dJ isS Tryz.results16 _ _ (W.heap.size+1) _ rfl (ai.row r1 _) (aA _ _ _ _)) rfl ⟨St.aJ B1 om1 _,Or.inr ⟨HY.out,(by rw [← EY.out,← EZ.out,← EO.out]<;>rfl)⟩⟩
end
section
open Go.RowKit Vc Cn Mx St Mt Pd Im Qn
attribute [local go_sem ↓] Go.wp_at_zero Go.wp_at_succ
namespace Im
theorem Yj(a b:Option Addr)(n m c d:Nat): ∀ u∈ [Value.slice a n c,Value.slice b m d],u.oneCell'=true:=by
 intro u hu;simp only [List.mem_cons,List.not_mem_nil,or_false] at hu;rcases hu with rfl|rfl<;>rfl
theorem Cf{w w':World}(k:Below w.heap.size w w')(X:Nat->Nat->Int)(P:Nat->Nat->Nat->Int)(ch:Nat->Int):Ans w w' 0 X P ch (.agg #[.slice none 0 0, .slice none 0 0]):=
 ⟨_,_,_,_,_,_,rfl,k,Pst.nil _ _ _ _ _,Sl.none _ _,rfl,rfl,qh.nil _,qh.nil _⟩
theorem Yl(w:World):(sizeOf 55).run Tryz.prog w= .ok 44 w:=by kernel_rfl
theorem slSt:Tryz.prog.underlying 32=some (.slice (Tryz.prog.elem 32)):=by kernel_rfl
theorem elSt:Tryz.prog.elem 32=55:=by kernel_rfl
theorem headS(g n k:Nat)(h0:0<k)(h:k<=n)(w:World):(Instr.slice 32 (.slice (some ⟨g,0,none⟩) n n) none (some (.int .i64 (k:Int))) none).run Tryz.prog w= .ok (.slice (some ⟨g,0,none⟩) k n) w:=by
 rw [run_slice_h w 32 _ _ _ slSt .i64 _ om1 om1,elSt,Yl];simp only [Result.andThen_ok,sliced,Int.toNat_natCast];rw [if_neg om1,Option.map_some,Nat.sub_zero,Nat.sub_zero,Nat.zero_mul];rfl
theorem tailS(g n k:Nat)(h:k<n)(w:World):(Instr.slice 32 (.slice (some ⟨g,0,none⟩) n n) (some (.int .i64 (k:Int))) none none).run Tryz.prog w= .ok (.slice (some ⟨g,k*44,none⟩) (n- k) (n- k)) w:=by
 rw [run_slice_l w 32 _ _ _ slSt .i64 _ om1 om1,elSt,Yl];simp only [Result.andThen_ok,sliced,Int.toNat_natCast];rw [if_neg om1,Option.map_some,Addr.add_lit,Nat.zero_add]
end Im
theorem WM(N:Nat)(hN:N<=4)(w:World):Calls Tryz.prog 139 #[.int .u64 1, .int .u64 (N:Int)] w fun e w'=>e= .returned (.tuple #[.int .u64 0, .int .u64 (N:Int)])/\w'=w:=by
 have HM:Hid (∀ w,Calls Tryz.prog 220 #[.int .u64 1, .int .u64 (N:Int)] w fun e w'=>e= .returned (.tuple #[.int .u64 0, .int .u64 (N:Int)])/\w'=w):=fun w=>(wI 1 N om1 om1 om1 om1 w).mono (by
  rintro e w' ⟨rfl,rfl⟩
  exact⟨Be (by unfold mi;omega) (by unfold lo;omega),rfl⟩)
 have e1:IntKind.u64.wrap (N:Int)=N:=by rw [IntKind.wrap_u64];omega
 clear hN;go_enter Tryz.func139,Tryz.ntmps139
 go_wp2_with (first
  |(go_at_call 220;refine(HM.out _).mono ?_;rintro e w' ⟨rfl,q⟩;obtain rfl:=q.symm)
  |fail)
 go_ret2;exact⟨rfl,rfl⟩
theorem Ky(cs:List Value)(hl:cs.length=44)(h1: ∀ v∈cs,v.oneCell'=true)(g0 N:Nat)(hN1:1<=N)(hN4:N<=4)(w:World)(hx:ai w g0 55 cs):
 Calls Tryz.prog 65 #[.slice (some ⟨g0,0,none⟩) 1 1, .int .i64 (N:Int)] w fun e w'=> ∃ (g:Nat) (S:Nat->List Value),e= .returned (.slice (some ⟨g,0,none⟩) N N)/\El.nG w' g 55 44 N S/\(∀ j,j<N->S j=cs)/\w.heap.size<=g/\Below w.heap.size w w':=by
 have HM:=Im.bT (fun w=>WM N hN4 w);have hmk:=Us N hN4 w;have E1:=El.Fa w 55 44 N (fun _=>aB (fun _=>0) 0 0 (fun _=>0)) (fun _ _=>aA _ _ _ _);have k1:=af (Below.refl _ w) (.cells (El.eu (fun _=>aB (fun _=>0) 0 0 (fun _=>0)) N).toArray 55);obtain⟨w1,hw1⟩: ∃ w1,w1=w.alloc (.cells (El.eu (fun _=>aB (fun _=>0) 0 0 (fun _=>0)) N).toArray 55):=⟨_,rfl⟩;rw [← hw1] at hmk E1 k1;have x1:=ai.keep hx k1;have hxl:=ai.lt hx;obtain⟨g,hg⟩: ∃ g,g=w.heap.size:=⟨_,rfl⟩;have e1:IntKind.u64.wrap (N:Int)=N:=by rw [IntKind.wrap_u64];omega
 have e2:IntKind.i64.wrap (N:Int)=N:=by rw [IntKind.wrap_i64];omega
 have e3: ¬((N:Int)<0):=om1;have e4: ¬((N:Int)>9223372036854775807):=om1
 have hsrc:Hid (∀ j v,(El.eu (fun _=>cs) 1)[j]?=some v->w1.cell? ((⟨g0,0,none⟩:Addr).add j)=some v):=fun j v hv=>by
  rw [El.QN,Nat.zero_add];exact ai.cell x1 (k:=j) (by simpa [El.eu] using hv) rfl
 rw [← hg] at hmk E1;have HG:=Im.bT hg;have HT:Hid (∀ m k,k<m->((fun _:Nat=>cs) k).length=44/\ ∀ v∈(fun _:Nat=>cs) k,v.oneCell'=true):=fun _ _ _=>⟨hl,h1⟩;have hmin:Hid (Nat.min 1 N=1):=by show(if 1<=N then 1 else N)=1;rw [if_pos hN1]
 clear hw1 hx hg h1;go_enter Tryz.func65,Tryz.ntmps65
 go_wp2_with (first
  |(go_at_call 139;refine(HM.out _).mono ?_;rintro e w' ⟨rfl,q⟩;obtain rfl:=q.symm)
  |((with_reducible show wpList _ _ _ _ _ _);refine El.GX (g:=g) (o:=0) (s:=44) (m:=1) (T:=fun _=>cs) rfl _ _ 32 32 rl1 _ _ _ _ _ rl1 rl1 55 Tryz.underlying32 IK (by with_reducible exact E1) (HT.out 1) om1 hmin.out hsrc.out ?_;intro w2 E2 k2;have B2:=k2.below k1 (by have:=k1.size;omega) (fun q e=>by rw [e,HG.out];omega))
  |fail)
 go_loopw [8] (fun i wr=> ∃ (k:Nat) (S:Nat->List Value),1<=k/\k<=N/\i= .int .i64 (k:Int)/\El.nG wr g 55 44 N S/\(∀ j,j<k->S j=cs)/\Below w.heap.size w wr) (fun i _=>N- (intOf i).toNat)
 case atStart=>exact⟨1,_,om1,hN1,rfl,E2,fun j hj=>(by rw [if_neg om1,if_pos om1]),B2⟩
 case round=>
  rename World=>wr;obtain⟨k,S,hk1,hk,rfl,eR,hS,bR⟩:=hrel;by_cases h:k<N
  ·obtain⟨m,hm,m1,mk,mN⟩: ∃ m,Nat.min k (N- k)=m/\1<=m/\m<=k/\k+m<=N:=⟨_,rfl,by show 1<=min k (N- k);omega,Nat.min_le_left _ _,by have:min k (N- k)<=N- k:=Nat.min_le_right _ _;show k+min k (N- k)<=N;omega⟩;have hh:=headS g N k om1 hk;have ht:=tailS g N k h;have kn:(k:Int)<N:=om1;have ek:IntKind.i64.wrap ((k:Int)+m)=((k+m:Nat):Int):=by rw [IntKind.wrap_i64];omega
   have HSr:=Im.bT (El.Vw (m:=m) (T:=fun _=>cs) eR.drew om1 (fun i hi=>hS i om1) (fun _ _=>hl) om1);have HSS:=Im.bT hS;clear hS;go_upto_region 9 with fail
   refine Ru.aS [] (fun _=>True) (by kernel_rfl) trivial (fun hHeld=> ?_);refine Ru.tk1 0 (.int .i64 (k:Int)) hHeld ?_;refine Ru.tk1 1 (.slice (some ⟨g,0,none⟩) N N) hHeld ?_;refine Ru.tk1 2 (.int .i64 (k:Int)) hHeld ?_;refine Ru.tk1 3 (.slice (some ⟨g,k*44,none⟩) (N- k) (N- k)) hHeld ?_;refine Ru.tk1 4 (.slice (some ⟨g,0,none⟩) N N) hHeld ?_;refine Ru.tk1 5 (.int .i64 (k:Int)) hHeld ?_;refine Ru.tk1 6 (.slice (some ⟨g,0,none⟩) k N) hHeld ?_;refine Ru.rd 7 (fun K hK=> ?_);refine El.NV (g:=g) (o:=k) (m:=m) (T:=fun _=>cs) rfl _ _ 32 32 rl1 _ _ _ _ _ rl1 rl1 55 Tryz.underlying32 IK eR.drew (HT.out m) mN hm HSr.out ?_;intro w5 E5 k5;refine Ru.hd hK trivial (fun hHeld=> ?_);clear hK K;refine Ru.tk1 8 (.int .i64 ((k+m:Nat):Int)) hHeld ?_;refine Ru.tk1 9 (.int .i64 ((k+m:Nat):Int)) hHeld ?_;refine Ru.bI (by kernel_rfl) ?_;have B5:=k5.below (Vc.az wr|>ae bR) (by have:=bR.size;show w.heap.size<=wr.heap.size;omega) (fun q e=>by rw [e,HG.out];omega);go_wp2;go_roundw
   case rel=>exact⟨k+m,_,om1,mN,rfl,E5,fun j hj=>(by
    by_cases e:j<k
    ·rw [if_pos e];exact HSS.out j e
    ·rw [if_neg e,if_pos hj]),B5⟩
   case measure=>simp [intOf];omega
  ·obtain rfl:N=k:=om1;have HSS:=Im.bT hS;clear hS;go_wp2;go_ret;exact⟨g,S,rfl,eR,HSS.out,by rw [HG.out];exact Nat.le_refl _,bR⟩
theorem WN:Yd:=by
 intro W c X r q z F hc hz bX bF;have HCk:=Im.bT (fun w (k:Below W.heap.size W w)=>y9 w c (hc.keep k));obtain⟨mo,n,mc,K,V,N,ro,rq,rc,A,L,C,R,fl⟩:=c;have l1:=hc.m.le;have l2:=hc.m.cap;replace l1:n<=mc:=l1;replace l2:mc<=9223372036854775807:=l2;clear hc;have HCk:Hid (∀ w,Below W.heap.size W w->Calls Tryz.prog 12 #[.agg [.slice mo n mc, .slice ro rq rc, .int .i64 fl].toArray] w fun e w'=>Below w.heap.size w w'/\((¬qw n rq K V N L R fl/\e= .returned (FX 1))\/(qw n rq K V N L R fl/\e= .returned .nilIface))):=HCk
 show Calls Tryz.prog _ #[.agg #[.slice mo n mc, .slice ro rq rc, .int .i64 fl],_] W fun e w'=> ∃ u,
  (¬(qw n rq K V N L R fl/\r=6/\q=6/\Pr.oK X F)/\e= .returned (.tuple #[u,FX 1])/\Ans W w' 0 (fun _=>X) (fun _=>F) (sh 1073741824 (fun _=>1) n) u)\/
  ((qw n rq K V N L R fl/\r=6/\q=6/\Pr.oK X F)/\e= .returned (.tuple #[u, .nilIface])/\Ans W w' n (fun _=>X) (fun _=>F) (sh 1073741824 (fun _=>1) n) u)
 have t0:=((aH W 41 [.slice mo n mc, .slice ro rq rc, .int .i64 fl]).alloc (.cells (aB X r q z).toArray 55)).alloc (.cells [.slice none 0 0, .slice none 0 0].toArray 34);have s0:=(bU W (.cells [.slice mo n mc, .slice ro rq rc, .int .i64 fl].toArray 41) 55 (aB X r q z)).alloc (.cells [.slice none 0 0, .slice none 0 0].toArray 34);have r0:=dH W (.cells [.slice mo n mc, .slice ro rq rc, .int .i64 fl].toArray 41) (.cells (aB X r q z).toArray 55) 34 [.slice none 0 0, .slice none 0 0];have B0:Below W.heap.size W (((W.alloc (.cells [.slice mo n mc, .slice ro rq rc, .int .i64 fl].toArray 41)).alloc (.cells (aB X r q z).toArray 55)).alloc (.cells [.slice none 0 0, .slice none 0 0].toArray 34)):=af (af (af (Below.refl _ _) _) _) _;obtain⟨w0,hw0⟩: ∃ w0,w0=((W.alloc (.cells [.slice mo n mc, .slice ro rq rc, .int .i64 fl].toArray 41)).alloc (.cells (aB X r q z).toArray 55)).alloc (.cells [.slice none 0 0, .slice none 0 0].toArray 34):=⟨_,rfl⟩;rw [← hw0] at t0 s0 r0 B0;have HW:=Im.bT hw0;have HBX:=Im.bT (show _/\_/\_ from⟨hz,bX,bF⟩);clear hw0 hz bX bF;go_enter Tryz.func23,Tryz.ntmps23
 go_wp2_with (first
  |(rw [← HW.out])
  |((with_reducible show wpList _ _ _ _ _ _);refine St.aI isCo rl1 _ rl1 _ _ rl1 (by with_reducible exact t0) rfl ?_)
  |fail)
 refine(HCk.out _ B0).mono ?_;rintro e w1 ⟨k1,⟨hn,rfl⟩|⟨hy,rfl⟩⟩
 ·have HN:Hid (¬(qw n rq K V N L R fl/\r=6/\q=6/\Pr.oK X F)):=fun e=>hn e.1;have r1:=ai.keep r0 k1;have B1:=ae B0 k1;rw [xq];clear hn t0 s0 r0 B0 k1 HW HCk HBX
  go_wp2_with (first
   |(refine St.aU F9 rfl _ _ rl1 _ _ [.slice none 0 0, .slice none 0 0] rl1 rl1 (by with_reducible exact r1) rfl rfl (Yj _ _ _ _ _ _) ?_)
   |fail)
  exact bodyPost_ret (iD F9 Tryz.results23 _ _ (W.heap.size+1+1) _ rfl (ai.row r1 _) rfl) rfl ⟨_,Or.inl ⟨HN.out,rfl,Cf (St.aJ B1 om1 _) _ _ _⟩⟩
 ·have HY:=Im.bT hy;have t1:=ai.keep t0 k1;have s1:=ai.keep s0 k1;have r1:=ai.keep r0 k1;have B1:=ae B0 k1;clear hy t0 s0 r0 B0 k1 HW HCk;obtain⟨b,hb⟩:=uX (r=6/\q=6/\Pr.oK X F)
  have HPc:Hid (∀ U,Calls Tryz.prog 63 #[.agg (aB X r q z).toArray] U fun e w'=>e= .returned (ckR b)/\Below U.heap.size U w'):=fun U=>by
   by_cases h6:r=6/\q=6
   ·rw [HBX.out.1 h6.1 h6.2,h6.1,h6.2];exact jy X F b U ⟨fun e=>(hb.1 e).2.2,fun e=>hb.2 ⟨h6.1,h6.2,e⟩⟩
   ·cases b with
    |true=>exact absurd ⟨(hb.1 rfl).1,(hb.1 rfl).2.1⟩ h6
    |false=>exact BQ X r q z U h6
  have HB:=Im.bT hb;have d1:w1.cell? ⟨W.heap.size,0,none⟩=some (.slice mo n mc):=ai.cell t1 (k:=0) rfl rfl;clear hb
  go_wp2_with (first
   |((with_reducible show wpList _ _ _ _ _ _);refine St.aI isS rl1 _ rl1 _ _ rl1 (by with_reducible exact s1) (aA _ _ _ _) ?_)
   |fail)
  refine(HPc.out _).mono ?_;rintro e w2 ⟨rfl,k2⟩;have t2:=ai.keep t1 k2;have s2:=ai.keep s1 k2;have r2:=ai.keep r1 k2;have B2:=ae B1 k2;have d2:w2.cell? ⟨W.heap.size,0,none⟩=some (.slice mo n mc):=ai.cell t2 (k:=0) rfl rfl;clear t1 s1 r1 B1 k2 d1 HPc;cases b with
  |false=>
   have HN:Hid (¬(qw n rq K V N L R fl/\r=6/\q=6/\Pr.oK X F)):=fun e=>by have:=HB.out.2 e.2;cases this
   rw [ckF];clear t2 s2 d2
   go_wp2_with (first
    |(refine St.aU F9 rfl _ _ rl1 _ _ [.slice none 0 0, .slice none 0 0] rl1 rl1 (by with_reducible exact r2) rfl rfl (Yj _ _ _ _ _ _) ?_)
    |fail)
   exact bodyPost_ret (iD F9 Tryz.results23 _ _ (W.heap.size+1+1) _ rfl (ai.row r2 _) rfl) rfl ⟨_,Or.inl ⟨HN.out,rfl,Cf (St.aJ B2 om1 _) _ _ _⟩⟩
  |true=>
   obtain⟨e6,f6,hV⟩:=HB.out.1 rfl;have hzz:=HBX.out.1 e6 f6;have HYY:Hid (qw n rq K V N L R fl/\r=6/\q=6/\Pr.oK X F):=⟨HY.out,e6,f6,hV⟩;have n1:=HY.out.one;have n4:=HY.out.four;have HEv:=Im.bT (fun w=>WH w (n:Int) om1 om1);have HRp:=Im.bT (fun g w (h:ai w g 55 (aB X r q z))=>Ky (aB X r q z) (aA _ _ _ _) (cZ _ _ _ _) g n n1 n4 w h);have HEq:=Im.bT (show aB X r q z=aB X 6 6 (mz 6 6 F) by rw [hzz,e6,f6]);rw [ckT];clear hzz e6 f6 hV HY HB HBX;go_wp2_with fail
   refine(HEv.out _).mono ?_;rintro e w3 ⟨vo,vn,vc,ev,rfl,k3,hE,⟨hno,_⟩|⟨_,_,hv,rfl⟩,nw⟩
   ·exact absurd ⟨om1,om1⟩ hno
   ·obtain rfl:vn=n:=om1;have t3:=ai.keep t2 k3;have s3:=ai.keep s2 k3;have r3:=ai.keep r2 k3;have B3:=ae B2 k3;have d3:w3.cell? ⟨W.heap.size,0,none⟩=some (.slice mo vn mc):=ai.cell t3 (k:=0) rfl rfl;have HE:=Im.bT hE;have NW:Hid (qh W vo):=fun x e=>Nat.le_trans B2.size (nw x e);have NB:Hid (∀ x,vo=some x-> ¬x.block=W.heap.size+1+1):=fun x e=>by have:=nw x e;have:=ai.lt r2;omega
    have NG:Hid (W.heap.size+1+1<w3.heap.size):=ai.lt r3;have x4:=aH w3 55 (aB X r q z);have k4:=af (Below.refl _ w3) (.cells (aB X r q z).toArray 55);obtain⟨w4,hw4⟩: ∃ w4,w4=w3.alloc (.cells (aB X r q z).toArray 55):=⟨_,rfl⟩;rw [← hw4] at x4 k4;have HW4:=Im.bT hw4;have t4:=ai.keep t3 k4;have r4:=ai.keep r3 k4;have B4:=ae B3 k4;have d4:w4.cell? ⟨W.heap.size,0,none⟩=some (.slice mo vn mc):=ai.cell t4 (k:=0) rfl rfl;have HRw:=Im.bT (HRp.out _ _ x4);have S3:=Im.bT B3.size;clear t2 s2 r2 B2 d2 k3 hE nw hv HEv t3 r3 B3 x4 hw4 HRp
    go_wp2_with (first
     |((with_reducible show wpList _ _ _ _ _ _);refine St.aI isS rl1 _ rl1 _ _ rl1 (by with_reducible exact s3) (aA _ _ _ _) ?_)
     |(refine Mx.xg _ rl1 X r q z rl1 rl1 ?_;rw [← HW4.out];clear d3 s3)
     |fail)
    refine HRw.out.mono ?_;rintro e w5 ⟨g,S,rfl,E5,hS,hg,k5⟩;have r5:=ai.keep r4 k5;have B5:=ae B4 k5;have hgo:W.heap.size+1+1<g:=by have:=S3.out;have:=ai.lt r4;have:=k4.size;have:=NG.out;omega
    have kU:=Ud.gp w5 (W.heap.size+1+1) ([.slice (some ⟨g,0,none⟩) vn vn, .slice vo vn vc]:List Value).toArray;have HP5:=Im.bT (zg (X:=fun _=>X) (r:=fun _=>6) (c:=fun _=>6) (z:=fun _=>mz 6 6 F) (E5.but kU om1) n4 (fun k hk=>by rw [hS k hk,HEq.out]));have HS5:=Im.bT (Ld.lK ((HE.out.keep k4).keep k5) kU NB.out);have NG5:Hid (qh W (some ⟨g,0,none⟩)):=fun x e=>by cases e;show _<=g;omega
    have R5:=Im.bT (St.aJ B5 (g:=W.heap.size+1+1) om1 ([.slice (some ⟨g,0,none⟩) vn vn, .slice vo vn vc]:List Value).toArray);clear kU hgo hg hS E5 B5;clear t4 r4 B4 d4 k4 k5 HRw HE
    go_wp2_with (first
     |(refine St.aU F9 rfl _ _ rl1 _ _ [.slice (some ⟨g,0,none⟩) vn vn, .slice vo vn vc] rl1 rl1 (by with_reducible exact r5) rfl rfl (Yj _ _ _ _ _ _) ?_)
     |fail)
    exact bodyPost_ret (iD F9 Tryz.results23 _ _ (W.heap.size+1+1) _ rfl (ai.row r5 _) rfl) rfl ⟨_,Or.inr ⟨HYY.out,rfl,_,_,_,_,_,_,rfl,R5.out,HP5.out,HS5.out,rfl,rfl,NG5.out,NW.out⟩⟩
end
section
open Go.RowKit Vc Cn Mx St Mt Pd Im
attribute [local go_sem ↓] Go.wp_at_zero Go.wp_at_succ
theorem Ut{p:Prop}(h:p:=by
 go_wp2_with (first
  |(refine St.aU F9 rfl _ _ rl1 _ _ [.slice none 0 0, .slice none 0 0] rl1 rl1 (by with_reducible exact r1) rfl rfl (Yj _ _ _ _ _ _) ?_)
  |fail)
 exact bodyPost_ret (dJ F9 Tryz.results8 _ _ (W.heap.size+1+1) _ rfl (ai.row r1 _) rfl) rfl ⟨_,Or.inl ⟨HN.out,rfl,Cf (St.aJ B1 om1 _) _ _ _⟩⟩):p:=h
theorem WO:Ye:=by
 intro W c s d hA hc hs hd0 hd1;have HCk:=Im.bT (fun w (k:Below W.heap.size W w)=>y9 w c (hc.keep k));obtain⟨b,hb⟩:=uX (s.n=c.n/\s.May);have HMy:=Im.bT (fun w (k:Below W.heap.size W w)=>Nc b s c.n w (hs.keep k) hb);obtain⟨mo,cn,mc,K,V,N,ro,rq,rc,A,L,C,R,fl⟩:=c;obtain⟨lo,n,cm,ho,sm,hcp,X,r,q,z,F,ch⟩:=s;obtain⟨hm,⟨hro,hre⟩,hbn⟩:=hc;obtain⟨hl,hz,bX,bF,hsl,bs⟩:=hs;have l1:cn<=mc:=hm.le;have l2:mc<=9223372036854775807:=hm.cap;replace hb:b=true↔n=cn/\uC n sm ch X r q F:=hb;have HCk:Hid (∀ w,Below W.heap.size W w->Calls Tryz.prog 12 #[.agg [.slice mo cn mc, .slice ro rq rc, .int .i64 fl].toArray] w fun e w'=>Below w.heap.size w w'/\((¬qw cn rq K V N L R fl/\e= .returned (FX 1))\/(qw cn rq K V N L R fl/\e= .returned .nilIface))):=HCk;have HMy:Hid (∀ w,Below W.heap.size W w->Calls Tryz.prog 34 #[.agg [.slice lo n cm, .slice ho sm hcp].toArray, .int .i64 (cn:Int)] w fun e w'=>e= .returned (.bool b)/\Below w.heap.size w w'):=HMy
 show Calls Tryz.prog _ #[.agg #[.slice mo cn mc, .slice ro rq rc, .int .i64 fl], .agg #[.slice lo n cm, .slice ho sm hcp], .int .i64 d] W fun e w'=> ∃ u,
  (¬((qw cn rq K V N L R fl/\n=cn/\uC n sm ch X r q F)/\Mo.qU d)/\e= .returned (.tuple #[u, .bool false,FX 1])/\Ans W w' 0 (Im.aX K V d n ch R X) (Im.aP K V N d n ch R X F) (sh 1073741824 (mxw n ch R) n) u)\/
  (((qw cn rq K V N L R fl/\n=cn/\uC n sm ch X r q F)/\Mo.qU d)/\e= .returned (.tuple #[u, .bool (Im.aO K V N d n ch R X F), .nilIface])/\Ans W w' n (Im.aX K V d n ch R X) (Im.aP K V N d n ch R X F) (sh 1073741824 (mxw n ch R) n) u)
 have t0:=((aH W 41 [.slice mo cn mc, .slice ro rq rc, .int .i64 fl]).alloc (.cells [.slice lo n cm, .slice ho sm hcp].toArray 34)).alloc (.cells [.slice none 0 0, .slice none 0 0].toArray 34);have m0:=(bU W (.cells [.slice mo cn mc, .slice ro rq rc, .int .i64 fl].toArray 41) 34 [.slice lo n cm, .slice ho sm hcp]).alloc (.cells [.slice none 0 0, .slice none 0 0].toArray 34);have r0:=dH W (.cells [.slice mo cn mc, .slice ro rq rc, .int .i64 fl].toArray 41) (.cells [.slice lo n cm, .slice ho sm hcp].toArray 34) 34 [.slice none 0 0, .slice none 0 0];have B0:Below W.heap.size W (((W.alloc (.cells [.slice mo cn mc, .slice ro rq rc, .int .i64 fl].toArray 41)).alloc (.cells [.slice lo n cm, .slice ho sm hcp].toArray 34)).alloc (.cells [.slice none 0 0, .slice none 0 0].toArray 34)):=af (af (af (Below.refl _ _) _) _) _;obtain⟨w0,hw0⟩: ∃ w0,w0=((W.alloc (.cells [.slice mo cn mc, .slice ro rq rc, .int .i64 fl].toArray 41)).alloc (.cells [.slice lo n cm, .slice ho sm hcp].toArray 34)).alloc (.cells [.slice none 0 0, .slice none 0 0].toArray 34):=⟨_,rfl⟩;rw [← hw0] at t0 m0 r0 B0;have HW:=Im.bT hw0;rw [xq];have HI:=Im.bT (show iM W/\Pmt W mo cn mc K V N/\Sls W ro rq rc A L C/\(∀ i,i<rq->Sl W (A i) (L i) (C i) (R i))/\(∀ i,B64 (R i))/\Pst W lo n cm X r q z/\(∀ k,k<n->r k=6->q k=6->z k=mz 6 6 (F k))/\(∀ k,B64 (X k))/\(∀ k,B2 (F k))/\Sl W ho sm hcp ch/\B64 ch from⟨hA,hm,hro,hre,hbn.r,hl,hz,bX,bF,hsl,bs⟩);clear hw0 hA hm hro hre hbn hl hz bX bF hsl bs hd0 hd1;go_enter Tryz.func8,Tryz.ntmps8
 go_wp2_with (first
  |(rw [← HW.out])
  |((with_reducible show wpList _ _ _ _ _ _);refine St.aI isCo rl1 _ rl1 _ _ rl1 (by with_reducible exact t0) rfl ?_)
  |fail)
 refine(HCk.out _ B0).mono ?_;rintro e w1 ⟨k1,⟨hn,rfl⟩|⟨hy,rfl⟩⟩
 ·have HN:Hid (¬((qw cn rq K V N L R fl/\n=cn/\uC n sm ch X r q F)/\Mo.qU d)):=fun e=>hn e.1.1;have r1:=ai.keep r0 k1;have B1:=ae B0 k1;rw [xq];clear hn t0 m0 r0 B0 k1 HW HCk HMy HI hb;exact Ut
 ·have HY:=Im.bT hy;have t1:=ai.keep t0 k1;have m1:=ai.keep m0 k1;have r1:=ai.keep r0 k1;have B1:=ae B0 k1;have d1:w1.cell? ⟨W.heap.size,0,none⟩=some (.slice mo cn mc):=ai.cell t1 (k:=0) rfl rfl;have HB:=Im.bT hb;clear hy t0 m0 r0 B0 k1 HW HCk hb
  go_wp2_with (first
   |((with_reducible show wpList _ _ _ _ _ _);refine St.aI F9 rl1 _ rl1 _ _ rl1 (by with_reducible exact m1) rfl ?_)
   |fail)
  refine(HMy.out _ B1).mono ?_;rintro e w2 ⟨rfl,k2⟩;have t2:=ai.keep t1 k2;have m2:=ai.keep m1 k2;have r2:=ai.keep r1 k2;have B2:=ae B1 k2;clear t1 m1 r1 B1 k2 d1 HMy;cases b with
  |false=>
   have HN:Hid (¬((qw cn rq K V N L R fl/\n=cn/\uC n sm ch X r q F)/\Mo.qU d)):=fun e=>by have:=HB.out.2 e.1.2;cases this
   have r1:=r2;have B1:=B2;clear t2 m2 r2 B2 HI HY HB;exact Ut
  |true=>
   obtain⟨hcn,hJ⟩:=HB.out.1 rfl;subst hcn;obtain⟨hA,hm,hro,hre,bR,hl,hz,bX,bF,hsl,bs⟩:=HI.out;have hMx:=HY.out.mx (show Ch n ch 0 by rw [hJ.1];exact hJ.2.1);obtain rfl:n=sm:=hJ.1;obtain rfl:n=rq:=HY.out.rows.symm;have n1:=HY.out.one;have n4:=HY.out.four;have HFit:=Im.bT (show qw n n K V N L R fl/\n=n/\uC n n ch X r q F from⟨HY.out,rfl,hJ⟩);have HAl:=Im.bT (aaT w2 lo ho ro n cm n hcp n rc X r q z F ch A L C R (hl.keep B2) hz bX bF (hsl.keep B2) bs (hro.keep B2) (fun i hi=>(hre i hi).keep B2) bR);have HMX:=Im.bT (show uC n n ch X r q F/\I9 n ch n L R from⟨hJ,hMx⟩);obtain⟨gm,hmo,hmr⟩:=hm.get;obtain rfl:=hmo om1;have hjx: ∀ k,B64 (jX n (shr n ch R k) X):=fun k p=>Pr.VA (fun _ p=>jx n (shr n ch R k) X p) 0 p;have hjp: ∀ k,Mt.B2 (jP n (shr n ch R k) X F):=fun k i j=>by have:=jP_in n (shr n ch R k) X F i j;unfold Pr.InV at this;omega
   have HSt:Hid (∀ k,k<n-> ∃ (Yk:Nat->Int) (yr yc:Int) (zN:Nat->Int) (gk:Bool) (ef:Value),(∀ U,Below W.heap.size W U->Calls Tryz.prog 36 #[.agg (aB (jX n (shr n ch R k) X) 6 6 (mz 6 6 (jP n (shr n ch R k) X F))).toArray, .agg (mv (K k) (V k) (N k)).toArray, .int .i64 d] U fun e w'=>e= .returned (.tuple #[.agg (aB Yk yr yc zN).toArray, .bool gk,ef])/\Below U.heap.size U w')/\
    ((Mo.qU d/\ef= .nilIface/\gk=Im.aG K V N d n ch R X F k/\aB Yk yr yc zN=aB (Im.aX K V d n ch R X k) 6 6 (mz 6 6 (Im.aP K V N d n ch R X F k)))\/(¬Mo.qU d/\ef= .iface 93 (.int .i64 1)))):=fun k hk=>by
    by_cases hT:Mo.qU d
    ·exact⟨_,_,_,_,_,_,fun U b=>Uj _ _ (K k) (V k) (N k) d U (hA.below b) (VB n (shr n ch R k) X F) (hjx k) (hjp k) (HY.out.each k hk).1 hT,Or.inl ⟨hT,rfl,rfl,rfl⟩⟩
    ·exact⟨_,_,_,_,_,_,fun U _=>WI _ _ _ _ (K k) (V k) (N k) d U hT,Or.inr ⟨hT,rfl⟩⟩
   have HMR:=Im.bT hmr;have c0:w2.cell? ⟨W.heap.size+1,0,none⟩=some (.slice lo n cm):=ai.cell m2 (k:=0) rfl rfl;have c1:w2.cell? ⟨W.heap.size+1,1,none⟩=some (.slice ho n hcp):=ai.cell m2 (k:=1) rfl rfl;have c2:w2.cell? ⟨W.heap.size,1,none⟩=some (.slice ro n rc):=ai.cell t2 (k:=1) rfl rfl;clear hJ hA hm hro hre bR hl hz bX bF hsl bs hMx hmo hmr hjx hjp HI HB HY;go_wp2_with fail
   refine HAl.out.mono ?_;rintro e w3 ⟨vo,vn,vc,co,xn,xc,oA,ev,rfl,k3,hP,hC,⟨hno,_⟩|⟨_,_,q1,q2,q3,q4⟩,nv,nc,hE⟩
   ·exact absurd HMX.out hno
   obtain rfl:=q1.symm;obtain rfl:=q2.symm;subst q4;obtain⟨go,S0,rfl,q5,e3,hS0,hoff⟩:=hE.resolve_left om1;obtain rfl:=q5.symm;have t3:=ai.keep t2 k3;have r3:=ai.keep r2 k3;have B3:=ae B2 k3;have hgo:W.heap.size+1+1<go:=by have h1:w2.heap.size<=go:=nv _ rfl;have:=ai.lt r2;omega
   have HL:Hid (∀ U,Ld.But (· =go) w3 U->Below W.heap.size W U/\ai U W.heap.size 41 [.slice (some ⟨gm,0,none⟩) n mc, .slice ro n rc, .int .i64 fl]/\ai U (W.heap.size+1+1) 34 [.slice none 0 0, .slice none 0 0]/\Sl U co n xc (sh 1073741824 (mxw n ch R) n)):=fun U k=>⟨k.below B3 B3.size (fun q e=>by rw [e];omega),Ld.aT t3 k om1,Ld.aT r3 k om1,Ld.lK hC k hoff⟩;have HNW:Hid (qh W (some ⟨go,0,none⟩)/\qh W co/\ ∀ x,co=some x-> ¬x.block=W.heap.size+1+1):=⟨fun x e=>by cases e;show _<=go;omega,fun x e=>Nat.le_trans B2.size (nc x e),fun x e=>by have:=nc x e;have:=ai.lt r2;omega⟩;have HS0:=Im.bT hS0;have HOA:=Im.bT q3;obtain⟨G,hG⟩: ∃ q,q=Im.aG K V N d n ch R X F:=⟨_,rfl⟩;obtain⟨Y,hY⟩: ∃ q,q=Im.aX K V d n ch R X:=⟨_,rfl⟩;obtain⟨zP,hzP⟩: ∃ q,q=fun k=>mz 6 6 (Im.aP K V N d n ch R X F k):=⟨_,rfl⟩;obtain⟨JX,hJX⟩: ∃ q,q=fun k=>jX n (shr n ch R k) X:=⟨_,rfl⟩;obtain⟨zJ,hzJ⟩: ∃ q,q=fun k=>mz 6 6 (jP n (shr n ch R k) X F):=⟨_,rfl⟩;have HE0:Hid (∀ k,k<n->S0 k=aB (JX k) 6 6 (zJ k)):=fun k hk=>by rw [hJX,hzJ];exact HS0.out k hk
   have HSt:Hid (∀ k,k<n-> ∃ (Yk:Nat->Int) (yr yc:Int) (zN:Nat->Int) (gk:Bool) (ef:Value),(∀ U,Below W.heap.size W U->Calls Tryz.prog 36 #[.agg (aB (JX k) 6 6 (zJ k)).toArray, .agg (mv (K k) (V k) (N k)).toArray, .int .i64 d] U fun e w'=>e= .returned (.tuple #[.agg (aB Yk yr yc zN).toArray, .bool gk,ef])/\Below U.heap.size U w')/\
    ((Mo.qU d/\ef= .nilIface/\gk=G k/\aB Yk yr yc zN=aB (Y k) 6 6 (zP k))\/(¬Mo.qU d/\ef= .iface 93 (.int .i64 1)))):=by rw [hJX,hzJ,hG,hY,hzP];exact HSt
   have HEq:=Im.bT (show _/\_/\_ from⟨hG,hY,hzP⟩);have HAny:Hid (∀ k,dN G (k+1)=(dN G k||G k)):=fun _=>rfl;clear t2 m2 r2 B2 k3 hP hC nv nc hE hS0 hoff t3 r3 B3 q3 hG hY hzP hJX hzJ HS0 HAl HMX c0 c1 c2;go_wp2_with fail
   go_loopw [11,49] (fun o i wr=> ∃ (k:Nat) (S:Nat->List Value),k<=n/\(¬Mo.qU d->k=0)/\i= .int .i64 (k:Int)/\o= .bool (oA||dN G k)/\(∀ j,j<k->S j=aB (Y j) 6 6 (zP j))/\(∀ j,k<=j->j<n->S j=aB (JX j) 6 6 (zJ j))/\El.nG wr go 55 44 n S/\Ld.But (· =go) w3 wr) (fun _ i _=>n- (intOf i).toNat)
   case atStart=>exact⟨0,S0,om1,fun _=>rfl,rfl,by rw [show dN G 0=false from rfl,Bool.or_false],fun j hj=>by omega,fun j _ hj=>HE0.out j hj,e3,Ld.But.refl _ _⟩
   case round=>
    rename World=>wr;obtain⟨k,S,hk,hk0,rfl,rfl,hS1,hS2,eR,bl⟩:=hrel;by_cases h:k<n
    ·obtain⟨Yk,yr,yc,zN,gk,ef,hSk,hcs⟩:=HSt.out k h;obtain⟨BW,tW,rW,sW⟩:=HL.out _ bl;have HSk:=Im.bT hSk;have HCS:=Im.bT hcs;have hq:=(eR.at' k h).2;rw [hS2 k (Nat.le_refl _) h] at hq;have HRR:=Im.bT (show _/\_/\_ from⟨hk0,hS1,hS2⟩);have kn:(k:Int)<n:=om1;have HMk:=Im.bT (HMR.out k h);have A1:=Im.bT (HAny.out k);obtain⟨Xk,hXk⟩: ∃ q,q=JX k:=⟨_,rfl⟩;obtain⟨zk,hzk⟩: ∃ q,q=zJ k:=⟨_,rfl⟩;obtain⟨Kk,hKk⟩: ∃ q,q=K k:=⟨_,rfl⟩;obtain⟨Vk,hVk⟩: ∃ q,q=V k:=⟨_,rfl⟩;obtain⟨Nk,hNk⟩: ∃ q,q=N k:=⟨_,rfl⟩;rw [← hXk,← hzk] at hq;rw [← hXk,← hzk,← hKk,← hVk,← hNk] at HSk;rw [← hKk,← hVk,← hNk] at HMk;clear hSk hcs hXk hzk hKk hVk hNk hk0 hS1 hS2 HSt HMR HAny
     go_upto_region 9 with(first
      |((with_reducible show wpList _ _ _ _ _ _);refine St.dA isS rl1 _ rl1 _ _ _ rl1 (by with_reducible exact hq) (aA _ _ _ _) ?_)
      |(rw [zeroS];refine St.aF isS rfl _ _ rl1 _ _ _ rl1 rl1 (aA _ _ _ _) (aA _ _ _ _) (cZ _ _ _ _) ?_;intro w5 n5 k5)
      |fail)
     have e5:=eR.keep k5;have b5:=bl.then k5;have l5:=ai.lt n5;have lR:=eR.lt;obtain⟨gb,hgb⟩: ∃ g,g=wr.heap.size:=⟨_,rfl⟩;rw [← hgb] at n5 l5 lR ⊢;have HS5:Hid (∀ U,Below w5.heap.size w5 U->ai U gb 55 (aB Xk 6 6 zk)/\U.cell? ⟨W.heap.size,0,none⟩=some (.slice (some ⟨gm,0,none⟩) n mc)/\U.rangeAt gm (k*3) (mv Kk Vk Nk)):=fun U b=>⟨ai.keep n5 b,ai.cell (ai.keep (HL.out _ b5).2.1 b) (k:=0) rfl rfl,fun j v hv=>ah (ae (HL.out _ b5).1 b) (HMk.out j v hv)⟩;have B5:=Im.bT (HL.out _ b5).1;have E5:=Im.bT (show _/\_ from⟨e5,b5⟩);clear k5 hgb eR bl BW tW rW sW hq e5 b5 HMk;dsimp only [Go.Act.put];go_cut [15,16,17] (fun p o f wx=> ∃ g:Nat,p= .pointer (some ⟨g,0,none⟩)/\o= .bool gk/\f=ef/\ai wx g 55 (aB Yk yr yc zN)/\Below w5.heap.size w5 wx)
     case first=>
      refine Ru.aS [] (fun w'=>ai w' gb 55 (aB Xk 6 6 zk)/\w'.cell? ⟨W.heap.size,0,none⟩=some (.slice (some ⟨gm,0,none⟩) n mc)/\w'.rangeAt gm (k*3) (mv Kk Vk Nk)) (by kernel_rfl) (HS5.out _ ((Vc.az _))) (fun hHeld=> ?_);refine Ru.tk 0 (.agg (aB Xk 6 6 zk).toArray) rfl (Ru.fF isS (by kernel_rfl) _ rl1 gb _ rl1 (fun w h=>h.1) (aA _ _ _ _)) hHeld ?_;refine Ru.tk3 1 (.pointer (some ⟨W.heap.size,0,none⟩)) hHeld ?_;refine Ru.tk3 2 (.slice (some ⟨gm,0,none⟩) n mc) hHeld ?_;refine Ru.tk3 3 (.int .i64 (k:Int)) hHeld ?_;refine Ru.tk3 4 (.pointer (some ⟨gm,k*3,none⟩)) hHeld ?_;refine Ru.tk 5 (.agg (mv Kk Vk Nk).toArray) rfl (xY Mo.Hu (by kernel_rfl) _ rl1 gm (k*3) _ rl1 (fun w h=>h.2.2) rfl) hHeld ?_;refine Ru.tk3 6 (.int .i64 d) hHeld ?_;have D_:=Vc.az w5;refine Ru.rs [7,12] ?_
      repeat' (first
       |((with_reducible show Ru.dC _ _ _ _ _ _ _ _ _ _ _);first
        |refine Ru.sp ?_ ?_
        |(refine Ru.co1 (i:=7) (fun K hK=> ?_);go_simp;have s_:=D_.size;refine(HSk.out _ (ae B5.out D_)).mono ?_;rintro e x_ ⟨rfl,k_⟩;replace D_:=ae D_ k_;(try replace n_:=ai.keep n_ k_);go_wp2_with fail;refine Ru.hd hK (HS5.out _ (D_)) (fun hHeld=> ?_);clear hK K;refine Ru.tk3 8 (.tuple #[.agg (aB Yk yr yc zN).toArray, .bool gk,ef]) hHeld ?_;refine Ru.tk3 9 (.agg (aB Yk yr yc zN).toArray) hHeld ?_;refine Ru.tk3 10 (.bool gk) hHeld ?_;refine Ru.tk3 11 ef hHeld ?_;first|refine Ru.rz [12] ?_|skip)
        |(refine Ru.co1 (i:=12) (fun K hK=> ?_);go_simp;(try rw [zeroS]);obtain⟨g_,x_,hg,hx,n_,l_,k_⟩:=made D_ 55 (aB (fun _=>0) 0 0 (fun _=>0));(first|rw [← hx]|rw [show(w5.alloc (.cells (aB (fun _=>0) 0 0 (fun _=>0)).toArray 55)).drew=x_ from hx.symm]);(try rw [← hg]);(try rw [show w5.heap.size=g_ from hg.symm]);clear hg hx;replace D_:=ae D_ k_;refine Ru.hd hK (HS5.out _ (D_)) (fun hHeld=> ?_);clear hK K;first|refine Ru.rz [7] ?_|skip))
       |as_aux_lemma=>(refine Ru.rd 13 (fun K hK=> ?_);refine Ru.kK isS (by kernel_rfl) _ _ rl1 g_ _ ((aB Yk yr yc zN)) rl1 rl1 n_ (aA _ _ _ _) (aA _ _ _ _) (cZ _ _ _ _) ?_;have nE:=ai.row n_ ((aB Yk yr yc zN));have bE:=St.aJ D_ (g:=g_) om1 ((aB Yk yr yc zN)).toArray;refine Ru.hd hK (HS5.out _ (bE)) (fun hHeld=> ?_);clear hK K;refine Ru.tk3 14 (.bool gk) hHeld ?_;refine Ru.tk3 15 ef hHeld ?_;refine Ru.bI (by kernel_rfl) ?_;go_wp2_with fail;go_meet;exact⟨_,rfl,rfl,rfl,nE,bE⟩))
     rename World=>w6;obtain⟨g6,rfl,rfl,rfl,n6,k6⟩:=hcut;have e6:=E5.out.1.keep k6;have b6:=E5.out.2.then k6;clear n5 k6 E5 HS5 B5 HSk;rcases HCS.out with⟨hT,hef,hgk,hsv⟩|⟨hT,hef⟩
     ·subst hef;rw [← hgk] at A1;have HSV:=Im.bT hsv;have HT:=Im.bT hT;clear hgk hsv hT HCS;obtain⟨qn,hqn⟩: ∃ q,q=(oA||dN G k):=⟨_,rfl⟩;have A2:Hid ((oA||dN G (k+1))=(qn||gk)):=by show _=_;rw [A1.out,hqn,Bool.or_assoc]
      rw [← hqn];clear hqn A1;cases qn
      all_goals go_wp2_with (first
       |((with_reducible show wpList _ _ _ _ _ _);refine St.aI isS rl1 _ rl1 _ _ rl1 (by with_reducible exact n6) (aA _ _ _ _) ?_)
       |((with_reducible show wpList _ _ _ _ _ _);refine El.mQ 55 rfl _ _ rl1 (aB Yk yr yc zN) rl1 rl1 (by with_reducible exact e6) h (aA _ _ _ _) IK (cZ _ _ _ _) ?_;intro w7 e7 k7;have b7:=Im.bT (b6.trans k7);have e7:=Im.bT e7;clear e6 b6 k7 n6)
       |fail)
      all_goals go_roundw
      all_goals first
       |(simp [intOf];omega)
       |exact⟨k+1,_,om1,fun e=>absurd HT.out e,by go_num,by rw [A2.out];first|rfl|simp,fun j hj=>(by
        by_cases e:j=k
        ·rw [if_pos e,e];exact HSV.out
        ·rw [if_neg e];exact HRR.out.2.1 j om1),fun j h1 h2=>(by rw [if_neg om1];exact HRR.out.2.2 j om1 h2),e7.out,b7.out⟩
     ·subst hef;have HN:Hid (qw n n K V N L R fl-> ¬Mo.qU d):=fun _=>hT;obtain⟨B1,_,r1,_⟩:=HL.out _ b6;clear hT HCS n6 e6 b6;exact Ut
    ·obtain rfl:n=k:=om1;have hT:Mo.qU d:=Classical.byContradiction fun e=>by have:=hk0 e;omega
     have hYS:=fun j hj=>(hS1 j hj).trans (show aB (Y j) 6 6 (zP j)=aB (Im.aX K V d n ch R X j) 6 6 (mz 6 6 (Im.aP K V N d n ch R X F j)) by rw [HEq.out.2.1,HEq.out.2.2]);obtain⟨BW,_,rW,sW⟩:=HL.out _ bl;have kU:=Ud.gp wr (W.heap.size+1+1) ([.slice (some ⟨go,0,none⟩) n n, .slice co n xc]:List Value).toArray;have HP5:=Im.bT (zg (X:=Im.aX K V d n ch R X) (r:=fun _=>6) (c:=fun _=>6) (z:=fun j=>mz 6 6 (Im.aP K V N d n ch R X F j)) (eR.but kU om1) n4 hYS);have HS5:=Im.bT (Ld.lK sW kU HNW.out.2.2);have R5:=Im.bT (St.aJ BW (g:=W.heap.size+1+1) om1 ([.slice (some ⟨go,0,none⟩) n n, .slice co n xc]:List Value).toArray);have HO:Hid (Im.aO K V N d n ch R X F=(oA||dN G n)):=by show _=_;rw [HEq.out.1,HOA.out];rfl
     have HT:=Im.bT hT;clear kU hYS hS1 hS2 hk0 eR bl BW sW hT;rw [← HO.out];obtain⟨qo,hqo⟩: ∃ q,q=Im.aO K V N d n ch R X F:=⟨_,rfl⟩;rw [← hqo];have EQ:=Im.bT hqo;clear hqo HO
     go_wp2_with (first
      |(refine St.aU F9 rfl _ _ rl1 _ _ [.slice (some ⟨go,0,none⟩) n n, .slice co n xc] rl1 rl1 (by with_reducible exact rW) rfl rfl (Yj _ _ _ _ _ _) ?_)
      |fail)
     exact bodyPost_ret (dJ F9 Tryz.results8 _ _ (W.heap.size+1+1) _ rfl (ai.row rW _) rfl) rfl ⟨_,Or.inr ⟨⟨HFit.out.1,HT.out⟩,(by rw [← EQ.out]<;>rfl),_,_,_,_,_,_,rfl,R5.out,HP5.out,HS5.out,rfl,rfl,HNW.out.1,HNW.out.2.1⟩⟩
end
end Go.Proofs.YtcefcokpjbebhaaGreatDoor
