import Derived.LoopIn
import Derived.LoopNIn
import Derived.OwnWalkIn
import Derived.RegionIn
import Derived.Shelf.Abstract
import Derived.Shelf.AbstractIn
import Derived.Shelf.RegionOpen
import Derived.TacticsInMore
import Derived.WalkMore
import Derived.Test.YtcnfapnfmnolbaaGreatRq26
set_option maxHeartbeats 40000000
set_option maxRecDepth 1000000
namespace Go.Proofs.YtcnfapnfmnolbaaGreat
open Go.RowKit Meet
variable {y:Int}{p:LI}{B i l:Nat}{hvv vb vp:Value}{X Y Y0:World}
def slA:Value->Option Addr| .slice a _ _=>a|_=>none
def slN:Value->Nat| .slice _ n _=>n|_=>0
def slC:Value->Nat| .slice _ _ c=>c|_=>0
def qBs(b:Value×Value):Array Value:=#[.agg #[b.1,b.2]]
def qGV(x:JX)(nxt:LI->LI)(p:LI)(pre:LI)(y:Int)(b:Value×Value)(X Y:World):Prop:=Brn x X.1.size Y b.1 b.2 (p++[y])/\pre++[y] <+:nxt p/\(∃g c,b.1=.slice (some (az g 0)) (p.length+1) c)/\∃g c,b.2=.slice (some (az g 0)) x.nT c
def KpB(x:JX)(l0 l2:Nat):World->World->Prop:=KpS x λk=>k=l0∨k=l2
theorem Jb(x:JX)(p:LI){t:Nat}(I:t<x.nT):(x.bel p)[t]?=some (.pointer (some (az (x.f t (prt (x.H t) p)) 0))):=by
 unfold JX.bel;rw[bK,List.getElem?_range I];rfl
structure SkE(x:JX)(B:Nat)(X Y:World)(bB bH cu cc:Nat)(vp vb vt:Value)(p:LI)(q:Nat->Nat)(i:Nat)(y:Int)(v:Nat):Prop where
 lg:LG x B Y bB bH cu cc vp vb vt p (λj=>if j=i then v else q j)
 kt:KT B X Y
 le:v<=(x.vl p i).length
 lo:∀m,m<v->(x.vl p i).getD m 0<y
 hi:∀m,v<=m->m<(x.vl p i).length->y<=(x.vl p i).getD m 0
section
variable {x:JX} {B:Nat} {X:World} {bB bH cu cc:Nat} {vp vb vt:Value} {p:LI} {q:Nat->Nat} {nxt:LI->LI} {no:Nat}
theorem LG.seek_calls(h:LG x B X bB bH cu cc vp vb vt p q)(hx:x.Ok)(O:JMx x nxt no)(hp:p.length<no)(U:x.Hd p)(hi:i<x.nh p)(y:Int)(hq:q i<(x.vl p i).length)(V:∀m,m<q i->(x.vl p i).getD m 0<y):
 Cl 137 #[.pointer (some (az cu (i*2))),ai y] X λe w'=>(∃v,e=.returned v)/\∃v,SkE x B X w' bB bH cu cc vp vb vt p q i y v:=by
 obtain⟨M,h2,-⟩:=x.tk_ok p hi;obtain⟨fb,cap,gb,cb,hc,K,-⟩:=h.cq O hp U hi;have I:Asc (x.vl p i):=uZ (O.asc _ M _ (U _ M));have hlen:(x.vl p i).length<=1000000:=O.len _ M _ (U _ M);refine(Z4 X cu (i*2) (x.nd p i) fb cap _ (x.vl p i) (q i) y hc Oo K hq I).mono ?_;rintro e w' ⟨hv,d,rfl⟩;refine⟨hv,q i+bsQ ((x.vl p i).drop (q i)) y,?_⟩;obtain⟨s1,s2,s3⟩:=QG (Yr I (q i)) y;have hl:=h.below hx (below_drewN (bJ _ X) d);obtain⟨a3,a4⟩:=hl.seek hx hi (q i+bsQ ((x.vl p i).drop (q i)) y);have a6:=h.bx.lt;have a5:B<=X.1.size:=by have:=(h.cur.lt cu rfl);omega
 rw[List.length_drop]at s1;refine⟨a3,(KT.of_below (below_drewN (bJ _ X) d) a5).trans a4,Oo,λm a7=>?_,λm h3 h4=>?_⟩
 ·by_cases e:m<q i;exact V m e;have:=s2 (m-q i) Oo;rw[gD,List.getElem?_drop,show q i+(m-q i)=m by omega,<-gD]at this;exact this
 have:=s3 (m-q i) Oo (by rw[List.length_drop];omega);rw[gD,List.getElem?_drop,show q i+(m-q i)=m by omega,<-gD]at this;exact this
theorem LG.ended_calls(h:LG x B X bB bH cu cc vp vb vt p q)(I:JMx x nxt no)(K:p.length<no)(M:x.Hd p)(hi:i<x.nh p):
 Cl 138 #[.pointer (some (az cu (i*2)))] X λe w'=>e=.returned (.bool (decide (q i=(x.vl p i).length)))/\∃d,w'=X.drewN d:=by
 obtain⟨fb,cap,gb,U,O,-,-⟩:=h.cq I K M hi;exact ZG X _ _ _ _ _ _ _ _ O
theorem LG.value_calls(h:LG x B X bB bH cu cc vp vb vt p q)(I:JMx x nxt no)(K:p.length<no)(M:x.Hd p)(hi:i<x.nh p)(hq:q i<(x.vl p i).length):
 Cl 139 #[.pointer (some (az cu (i*2)))] X λe w'=>e=.returned (ai ((x.vl p i).getD (q i) 0))/\∃d,w'=X.drewN d:=by
 obtain⟨fb,cap,gb,U,O,-,-⟩:=h.cq I K M hi;exact ZH X _ _ _ _ _ _ _ _ O hq
theorem LG.below_calls(h:LG x B X bB bH cu cc vp vb vt p q)(I:JMx x nxt no)(K:p.length<no)(M:x.Hd p)(hi:i<x.nh p)(hq:q i<(x.vl p i).length)(O:(x.vl p i).getD (q i) 0=y):
 Cl 140 #[.pointer (some (az cu (i*2)))] X λe w'=>e=.returned (.pointer (some (az (x.f (x.tk p i) (prt (x.H (x.tk p i)) p++[y])) 0)))/\∃d,w'=X.drewN d:=by
 obtain⟨fb,cap,gb,V,U,-,hb⟩:=h.cq I K M hi;have:=hb (q i) hq;rw[O]at this;exact ZI X _ _ _ _ _ _ _ _ _ _ _ U hq this
end
theorem Jd(w:World)(a0 a1:Option Addr)(n0 c0 I c1:Nat)(a2:Option Addr)(K c2:Nat):
 Cl 131 #[.agg #[.slice a0 n0 c0,.slice a1 I c1],.slice a2 K c2] w λe w'=>e=.returned (.func (.func 157) #[] #[.pointer (some (az w.1.size 0)),.pointer (some (az (w.1.size+1) 0))])/\w'=(w.alloc (.cells #[.slice a0 n0 c0,.slice a1 I c1] 143)).alloc (.cells #[.slice a2 K c2] 24):=by
 go_enter Tryz.func131,Tryz.ntmps131;go_wp2;go_ret;exact⟨rfl,rfl⟩
structure Frm(b l:Nat)(vp vb hvv:Value)(W:World)(r:Bool):Prop where
 b3:BrX W b vp vb
 b4:W.1[b+1]?=some (.cells #[hvv] 23 (0,0))
 b5:W.1[b+2]?=some (.cells #[.func (.yield l) #[] #[]] 114 (0,0))
 b6:W.1[b+3]?=some (.cells #[.bool r] 4 (0,0))
section
variable {x:JX} {S:Nat->Prop} {b l:Nat} {vp vb hvv:Value} {X Y:World} {r:Bool}
theorem Frm.bel(h:Frm b l vp vb hvv X r)(hb:Below B X Y)(hB:b+3<B):Frm b l vp vb hvv Y r:=
 ⟨(hb.block _ Oo).trans h.b3,(hb.block _ Oo).trans h.b4,(hb.block _ Oo).trans h.b5,(hb.block _ Oo).trans h.b6⟩
theorem Frm.lt(h:Frm b l vp vb hvv X r):b+3<X.1.size:=qW h.b6
theorem Frm.kp(h:Frm b l vp vb hvv X r)(I:KpS x S X Y)(K:x.Ok)(M:TyR x X)(O:x.n0<=b):Frm b l vp vb hvv Y r:=
 ⟨I.same _ _ h.b3 (Or.inl rfl) (KpS.not K M O h.b3 (Or.inl Dd)),I.same _ _ h.b4 (Or.inl rfl) (KpS.not K M Oo h.b4 (Or.inl Dd)),I.same _ _ h.b5 (Or.inl rfl) (KpS.not K M Oo h.b5 (Or.inl Dd)),I.same _ _ h.b6 (Or.inl rfl) (KpS.not K M Oo h.b6 (Or.inl Dd))⟩
theorem Frm.c4(h:Frm b l vp vb hvv X r):X.cell? (az (b+1) 0)=some hvv:=by rw[cell_of_row _ _ _ _ _ _ h.b4];rfl
theorem Frm.c5(h:Frm b l vp vb hvv X r):X.cell? (az (b+2) 0)=some (.func (.yield l) #[] #[]):=by rw[cell_of_row _ _ _ _ _ _ h.b5];rfl
theorem Frm.c6(h:Frm b l vp vb hvv X r):X.cell? (az (b+3) 0)=some (.bool r):=by rw[cell_of_row _ _ _ _ _ _ h.b6];rfl
theorem Frm.f6(h:Frm b l vp vb hvv X r):X.frozen? (az (b+3) 0)=false:=by unfold World.frozen?;rw[h.b6];simp
theorem Frm.set(h:Frm b l vp vb hvv X r)(I:Bool):Frm b l vp vb hvv (X.setCell (az (b+3) 0) (.bool I)) I/\KT (b+3) X (X.setCell (az (b+3) 0) (.bool I)):=
 ⟨⟨(bD _ _ _ _ (by show b≠b+3;omega)).trans h.b3,(bD _ _ _ _ (by show b+1≠b+3;omega)).trans h.b4,(bD _ _ _ _ (by show b+2≠b+3;omega)).trans h.b5,by rw[bI _ _ _ _ _ _ h.b6];rfl⟩,KT.set _ (nR _) h.b6 (Or.inr rfl)⟩
end
def HVs(x:JX)(no k:Nat)(v:Value):Prop:=∃hb o c,x.hv.ownBlock=some hb/\v=.slice (some (az hb o)) (no-k) c/\(0<no-k->o=k)/\no-k<=c
theorem HVs.cell{x:JX}{no k:Nat}{hb:Nat}{W:World}{nxt:LI->LI}(K:JMx x nxt no)(M:Dat x W)(O:k<no)(I:x.hv.ownBlock=some hb):W.cell? (az hb k)=some (x.uh.getD k undef):=by
 obtain⟨g,cap,e,-,U⟩:=M.hq.get (i:=k) (by rw[K.hl];exact O);rw[e]at I;have:g=hb:=by simpa[Value.ownBlock]using I
 rw[<-this];exact U
theorem KpS.keeps{x:JX}(h:KpS x (λk=>k=l) X Y)(I:x.Ok)(O:TyR x X)(hB:x.n0<=B)(hl:l<B):KeepsFrom B X Y:=by
 refine⟨h.size,λk o V K ho=>h.same k o K (Or.inr Oo) λU=>?_⟩;have h1:=I.h;have h2:=I.r;have h3:=I.v;rcases U with e|e|e|e;omega;omega;omega;obtain⟨cur,z,M⟩:=O k e;rw[K]at M;cases M
 cases ho
theorem KpS.of_below{x:JX}{S:Nat->Prop}(h:Bl X Y)(I:x.r<X.1.size):KpS x S X Y:=(KpS.refl x S X).kt (KT.of_below h (nR _)) I
structure WI(x:JX)(l:Nat)(J:World->Prop)(Y0:World)(vp vb hvv:Value)(W:World):Prop where
 j:J W
 kp:KpS x (λk=>k=l) Y0 W
 fr:Frm Y0.1.size l vp vb hvv W false
 dat:Dat x W
theorem WI.kt{x:JX}{J:World->Prop}(h:WI x l J Y0 vp vb hvv X)(K:x.Ok)(O:x.n0<=Y0.1.size)(M:∀X Y,J X->KT x.n0 X Y->J Y)(I:KT B X Y)(hB:Y0.1.size+3<B):WI x l J Y0 vp vb hvv Y:=
 ⟨M _ _ h.j (I.mono Oo),h.kp.kt (I.mono Oo) (by have:=K.r;omega),h.fr.bel I.bel hB,h.dat.kt (I.mono Oo) K⟩
structure WA(x:JX)(l:Nat)(J:World->Prop)(Y0:World)(vp vb hvv:Value)(p:LI)(y:Int)(v0 v1:Value)(bq:Nat)(W:World):Prop where
 kp:KpS x (λk=>k=l) Y0 W
 fr:Frm Y0.1.size l vp vb hvv W false
 dat:Dat x W
 bx:BrX W bq v0 v1
 src:∃X,J X/\KT x.n0 X W/\x.n0<=X.1.size/\Brn x X.1.size W v0 v1 (p++[y])
theorem Brn.kt{x:JX}(h:Brn x B X vp vb p)(I:KT x.n0 X Y)(hB:x.n0<=B):Brn x B Y vp vb p:=h.sb I.sb hB
theorem WA.kt{x:JX}{J:World->Prop}{v0 v1:Value}{bq:Nat}(h:WA x l J Y0 vp vb hvv p y v0 v1 bq X)(M:x.Ok)(hn:x.n0<=Y0.1.size)(K:KT B X Y)(hB:Y0.1.size+3<B):WA x l J Y0 vp vb hvv p y v0 v1 bq Y:=by
 have I:=K.mono (show x.n0<=B by omega);obtain⟨Z,U,V,O,h4⟩:=h.src;exact⟨h.kp.kt (K.mono Oo) (by have:=M.r;omega),h.fr.bel K.bel hB,h.dat.kt I M,(K.cel _ _ _ _ h.bx Dd Dd).trans h.bx,Z,U,V.trans I,O,h4.kt I O⟩
end Go.Proofs.YtcnfapnfmnolbaaGreat
