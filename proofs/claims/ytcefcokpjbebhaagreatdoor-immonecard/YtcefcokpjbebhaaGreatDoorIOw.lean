/-
  ImmOne, of whatever comes in.
-/
import Derived.Test.YtcefcokpjbebhaaGreatDoorM58
import Derived.Test.YtcefcokpjbebhaaGreatDoorPdL
import Derived.Test.YtcefcokpjbebhaaGreatDoorFImmOne
set_option linter.unusedSimpArgs false
set_option linter.unusedVariables false
namespace Go.Proofs.YtcefcokpjbebhaaGreatDoor
open Go.RowKit Vc St Mt Cn Mx Im El Pd
theorem imone_walk(P:Im.IPkg):FImmOne.Walk:=by
 intro c0 c1 lo l cm w h0 h1 h2 hE hT;show Calls Tryz.prog 5 #[.agg c0.toArray, .agg c1.toArray, .slice lo l cm] w _;obtain⟨mo,n,mc,K,V,N,ro,q,rc,A,L,C,R,fl,rfl,hc⟩:=conf_ci h0;obtain⟨xo,m,xc,X,po,pn,pc,A',K',C',Z,rfl,sX,bX,sP,qP⟩:=state_lies h1;obtain⟨SI,hsi⟩:=sights_lie h2;by_cases h6:m=6
 · subst h6;by_cases hn:n<=10
   · rcases six_cases sP qP with⟨F,rfl,gP,bP⟩|⟨r,c',z,hbad,hmat,hsix⟩
     · have hG:=fun W (b:Below w.heap.size w W)=>pgive_any xo po xc 6 pc X 6 6 (mz 6 6 F) W (sX.keep b) (fun V k=>matOf_six gP V (below_tr b k));by_cases hg:MayC n q K V N L R fl/\Pr.MayV X F
       · by_cases h1:n=1
         · exact imone_one P mo n mc K V N ro q rc A L C R fl xo po xc 6 pc X F lo l cm SI w hc hg.1 h1 hsi hE hT hG bX bP hg.2 sX.le (by have:=sX.cap;omega)
         · exact imone_many P mo n mc K V N ro q rc A L C R fl xo po xc 6 pc X F lo l cm SI w hc hg.1 h1 hsi hE hT hG bX bP hg.2 sX.le (by have:=sX.cap;omega)
       · refine imone_err P (coI n K V N ro q rc A L C R fl) mo n mc ro q rc fl xo po xc 6 pc X (mz 6 6 F) 6 6 lo l cm w hE hT hn (fun W b=>hc.give hn W b) hG (fun W vo vm hl=> ?_);refine(P.start W _ X 6 6 (mz 6 6 F) F hl (fun _ _=>rfl) bX bP).mono ?_;rintro e w' ⟨u,⟨_,rfl,ao,an,ac,bo,bn,bc,rfl,k,hp,hs,rfl,rfl,nw1,nw2⟩|⟨q,_⟩⟩
         · exact⟨ao,ac,bo,bc,rfl,k⟩
         · exact absurd ⟨q.1,q.2.2.2⟩ hg
     · refine imone_err P (coI n K V N ro q rc A L C R fl) mo n mc ro q rc fl xo po xc pn pc X z r c' lo l cm w hE hT hn (fun W b=>hc.give hn W b) (fun W b=>pgive_any xo po xc pn pc X r c' z W (sX.keep b) (fun V k=>hmat V (below_tr b k))) (fun W vo vm hl=> ?_);refine(P.start W _ X r c' z (fun _ _=>0) hl (fun a b=>absurd ⟨a,b⟩ hbad) bX (fun _ _=>(show(-9223372036854775808:Int)<=0/\(0:Int)<=9223372036854775807 by omega))).mono ?_;rintro e w' ⟨u,⟨_,rfl,ao,an,ac,bo,bn,bc,rfl,k,hp,hs,rfl,rfl,nw1,nw2⟩|⟨q,_⟩⟩
       · exact⟨ao,ac,bo,bc,rfl,k⟩
       · exact absurd ⟨q.2.1,q.2.2.1⟩ hbad
   · exact imone_odd P mo n mc ro q rc fl xo po 6 xc pn pc lo l cm w hT (Or.inr ⟨rfl,by omega⟩)
 · exact imone_odd P mo n mc ro q rc fl xo po m xc pn pc lo l cm w hT (Or.inl h6)
end Go.Proofs.YtcefcokpjbebhaaGreatDoor
