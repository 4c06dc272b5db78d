/-
  What package imm answers (layer 17), said once: its contracts.
-/
import Derived.Test.YtcefcokpjbebhaaGreatDoorM32
import Derived.Test.YtcefcokpjbebhaaGreatDoorM36
set_option linter.unusedSimpArgs false
set_option linter.unusedVariables false
namespace Go.Proofs.YtcefcokpjbebhaaGreatDoor
open Go.RowKit Vc Mt Cn Mx
namespace Im
structure Pmt(w:World)(lo:Option Addr)(n cm:Nat)(K V N:Nat->Int):Prop where
 le:n<=cm
 cap:cm<=9223372036854775807
 at': ∀ k,k<n-> ∃ g,lo=some ⟨g,0,none⟩/\w.rangeAt g (k*3) [.int .i64 (K k), .int .i64 (V k), .int .i64 (N k)]
theorem Pmt.keep{w w':World}{lo:Option Addr}{n cm:Nat}{K V N:Nat->Int}(h:Pmt w lo n cm K V N)(b:Below w.heap.size w w'):Pmt w' lo n cm K V N:=
 ⟨h.le,h.cap,fun k hk=>by obtain⟨g,hg,hr⟩:=h.at' k hk;exact⟨g,hg,fun j v hv=>ah b (hr j v hv)⟩⟩
theorem Pmt.get{w:World}{lo:Option Addr}{n cm:Nat}{K V N:Nat->Int}(h:Pmt w lo n cm K V N): ∃ g,(0<n->lo=some ⟨g,0,none⟩)/\ ∀ k,k<n->w.rangeAt g (k*3) [.int .i64 (K k), .int .i64 (V k), .int .i64 (N k)]:=by
 rcases Nat.eq_zero_or_pos n with e|e
 · exact⟨0,fun q=>by omega,fun k hk=>by omega⟩
 · obtain⟨g,hg,_⟩:=h.at' 0 e;refine⟨g,fun _=>hg,fun k hk=> ?_⟩;obtain⟨g',hg',hr⟩:=h.at' k hk;rw [hg] at hg';injection hg' with q
   injection q with q _ _
   subst q;exact hr
structure Co where
 mo:Option Addr
 n:Nat
 mc:Nat
 K:Nat->Int
 V:Nat->Int
 N:Nat->Int
 ro:Option Addr
 q:Nat
 rc:Nat
 A:Nat->Option Addr
 L:Nat->Nat
 C:Nat->Nat
 R:Nat->Nat->Int
 fl:Int
def Co.v(c:Co):Value:= .agg #[.slice c.mo c.n c.mc, .slice c.ro c.q c.rc, .int .i64 c.fl]
structure Co.Num(c:Co):Prop where
 k:B64 c.K
 v:B64 c.V
 n:B64 c.N
 r: ∀ i,B64 (c.R i)
 f0: -9223372036854775808<=c.fl
 f1:c.fl<=9223372036854775807
structure Co.Rows(w:World)(c:Co):Prop where
 s:Sls w c.ro c.q c.rc c.A c.L c.C
 e: ∀ i,i<c.q->Sl w (c.A i) (c.L i) (c.C i) (c.R i)
structure Co.Lies(w:World)(c:Co):Prop where
 m:Pmt w c.mo c.n c.mc c.K c.V c.N
 r:Co.Rows w c
 b:Co.Num c
theorem Co.Rows.keep{w w':World}{c:Co}(h:Co.Rows w c)(k:Below w.heap.size w w'):Co.Rows w' c:=⟨h.s.keep k,fun i hi=>(h.e i hi).keep k⟩
theorem Co.Lies.keep{w w':World}{c:Co}(h:Co.Lies w c)(k:Below w.heap.size w w'):Co.Lies w' c:=⟨h.m.keep k,h.r.keep k,h.b⟩
abbrev Co.May(c:Co):Prop:=qw c.n c.q c.K c.V c.N c.L c.R c.fl
structure Ms where
 lo:Option Addr
 n:Nat
 cm:Nat
 ho:Option Addr
 m:Nat
 hc:Nat
 X:Nat->Nat->Int
 r:Nat->Int
 c:Nat->Int
 z:Nat->Nat->Int
 F:Nat->Nat->Nat->Int
 ch:Nat->Int
def Ms.v(s:Ms):Value:= .agg #[.slice s.lo s.n s.cm, .slice s.ho s.m s.hc]
structure Ms.Lies(w:World)(s:Ms):Prop where
 st:Pst w s.lo s.n s.cm s.X s.r s.c s.z
 six: ∀ k,k<s.n->s.r k=6->s.c k=6->s.z k=Mt.mz 6 6 (s.F k)
 x: ∀ k,B64 (s.X k)
 f: ∀ k,Mt.B2 (s.F k)
 c:Sl w s.ho s.m s.hc s.ch
 b:B64 s.ch
theorem Ms.Lies.keep{w w':World}{s:Ms}(h:Ms.Lies w s)(k:Below w.heap.size w w'):Ms.Lies w' s:=⟨h.st.keep k,h.six,h.x,h.f,h.c.keep k,h.b⟩
abbrev Ms.May(s:Ms):Prop:=uC s.n s.m s.ch s.X s.r s.c s.F
def Fit(c:Co)(s:Ms):Prop:=c.May/\s.n=c.n/\s.May
def yes(lo:Option Addr)(n cm:Nat)(ho:Option Addr)(m hc:Nat)(X:Nat->Nat->Int)(P:Nat->Nat->Nat->Int)(ch:Nat->Int):Ms:=⟨lo,n,cm,ho,m,hc,X,fun _=>6,fun _=>6,fun k=>Mt.mz 6 6 (P k),P,ch⟩
def Ans(w w':World)(n:Nat)(X:Nat->Nat->Int)(P:Nat->Nat->Nat->Int)(ch:Nat->Int)(u:Value):Prop:=
 ∃ vo vn vc co cn cc,u= .agg #[.slice vo vn vc, .slice co cn cc]/\Below w.heap.size w w'/\Pst w' vo vn vc X (fun _=>6) (fun _=>6) (fun k=>Mt.mz 6 6 (P k))/\Sl w' co cn cc ch/\vn=n/\cn=n/\qh w vo/\qh w co
def Yc:Prop:= ∀ (W:World) (c:Co),c.Lies W->Calls Tryz.prog 12 #[c.v] W fun e w'=>Below W.heap.size W w'/\((¬c.May/\e= .returned (FX 1))\/(c.May/\e= .returned .nilIface))
def Yd:Prop:= ∀ (W:World) (c:Co) (X:Nat->Int) (r q:Int) (z:Nat->Int) (F:Nat->Nat->Int),c.Lies W->(r=6->q=6->z=Mt.mz 6 6 F)->B64 X->Mt.B2 F->
 Calls Tryz.prog 23 #[c.v, .agg (Pd.aB X r q z).toArray] W fun e w'=> ∃ u,
  (¬(c.May/\r=6/\q=6/\Pr.oK X F)/\e= .returned (.tuple #[u,FX 1])/\Ans W w' 0 (fun _=>X) (fun _=>F) (sh 1073741824 (fun _=>1) c.n) u)\/
  ((c.May/\r=6/\q=6/\Pr.oK X F)/\e= .returned (.tuple #[u, .nilIface])/\Ans W w' c.n (fun _=>X) (fun _=>F) (sh 1073741824 (fun _=>1) c.n) u)
def Ye:Prop:= ∀ (W:World) (c:Co) (s:Ms) (d:Int),iM W->c.Lies W->s.Lies W-> -9223372036854775808<=d->d<=9223372036854775807->
 Calls Tryz.prog 8 #[c.v,s.v, .int .i64 d] W fun e w'=> ∃ u,
  (¬(Fit c s/\Mo.qU d)/\e= .returned (.tuple #[u, .bool false,FX 1])/\Ans W w' 0 (aX c.K c.V d s.n s.ch c.R s.X) (aP c.K c.V c.N d s.n s.ch c.R s.X s.F) (sh 1073741824 (mxw s.n s.ch c.R) s.n) u)\/
  ((Fit c s/\Mo.qU d)/\e= .returned (.tuple #[u, .bool (aO c.K c.V c.N d s.n s.ch c.R s.X s.F), .nilIface])/\Ans W w' s.n (aX c.K c.V d s.n s.ch c.R s.X) (aP c.K c.V c.N d s.n s.ch c.R s.X s.F) (sh 1073741824 (mxw s.n s.ch c.R) s.n) u)
def ISeen:Prop:= ∀ (W:World) (c:Co) (s:Ms) (x y a b g:Int),c.Lies W->s.Lies W->(∀ v∈ [x,y,a,b,g],-9223372036854775808<=v/\v<=9223372036854775807)->
 Calls Tryz.prog 21 #[c.v,s.v, .agg (Ud.pv x y a b g).toArray] W fun e w'=> ∃ u,
  (¬(Fit c s/\Ud.lT x y a b g)/\e= .returned (.tuple #[u, .bool false,FX 1])/\Ans W w' 0 (sX s.X s.F x y a b g) (sP s.F a b g) (sC s.n s.ch c.fl s.X s.F x y a b g) u)\/
  ((Fit c s/\Ud.lT x y a b g)/\(¬ ∀ k,k<s.n->sF s.F a b g k)/\e= .returned (.tuple #[u, .bool false,FX 8])/\Ans W w' 0 (sX s.X s.F x y a b g) (sP s.F a b g) (sC s.n s.ch c.fl s.X s.F x y a b g) u)\/
  ((Fit c s/\Ud.lT x y a b g)/\(∀ k,k<s.n->sF s.F a b g k)/\e= .returned (.tuple #[u, .bool (sO s.n s.ch s.X s.F x y a b g), .nilIface])/\Ans W w' s.n (sX s.X s.F x y a b g) (sP s.F a b g) (sC s.n s.ch c.fl s.X s.F x y a b g) u)
def IOne:Prop:= ∀ (W:World) (s:Ms),s.Lies W->Calls Tryz.prog 16 #[s.v] W fun e w'=>Below W.heap.size W w'/\
    ((¬s.May/\e= .returned (.tuple #[.agg (Pd.aB (fun _=>0) 0 0 (fun _=>0)).toArray, .bool false,FX 1]))\/
     (s.May/\e= .returned (.tuple #[.agg (Pd.aB (jX s.n s.ch s.X) 6 6 (Mt.mz 6 6 (jP s.n s.ch s.X s.F))).toArray, .bool (jO s.n s.ch s.X s.F), .nilIface])))
def ISame:Prop:= ∀ (W:World) (lo lo' ho ho':Option Addr) (n cm cm' m hc hc':Nat) (X:Nat->Nat->Int) (r c:Nat->Int) (z:Nat->Nat->Int) (ch:Nat->Int),Pst W lo n cm X r c z->Pst W lo' n cm' X r c z->Sl W ho m hc ch->Sl W ho' m hc' ch->
 Calls Tryz.prog 20 #[.agg #[.slice lo n cm, .slice ho m hc], .agg #[.slice lo' n cm', .slice ho' m hc']] W fun e w'=>e= .returned (.bool true)/\Below W.heap.size W w'
structure WE:Prop where
 check:Yc
 start:Yd
 ahead:Ye
 seen:ISeen
 one:IOne
 same:ISame
end Im
end Go.Proofs.YtcefcokpjbebhaaGreatDoor
