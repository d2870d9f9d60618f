import Derived.Test.YtkaipapdlnojiaaGreatWq34
set_option maxHeartbeats 40000000
set_option maxRecDepth 1000000
namespace Go.Proofs.YtkaipapdlnojiaaGreat
open Go.RowKit
variable {ls:List (List Int)}{o q xs:List Int}{tl:List TbV}{j m:Nat}{v:Value}{W w:World}
def qy(tl:List TbV)(i:Nat):Bool:=tl.any λt=>decide ((i:Int)∈t.vs)
def vrJ(tl:List TbV):List Int:=plc (qy tl) 6
theorem jk(tl:List TbV):(vrJ tl).length<=6:=xK _ _
theorem Ut(p:Nat->Bool)(k:Nat):(plc p k).Pairwise (·< ·):=by
 unfold plc;refine List.pairwise_map.2 ((List.pairwise_lt_range.filter _).imp λ{a b} h=>?_);show(a:Int) < (b:Int);omega
theorem qCC(tl:List TbV):(vrJ tl).Nodup:=(Ut _ _).imp λ{a b} h=>Oo
theorem jl{p:Nat->Bool}{k:Nat}{x:Int}:x∈plc p k↔∃i,i < k/\p i=true/\(i:Int)=x:=by
 unfold plc;rw[List.mem_map];constructor
 ·rintro⟨i,hi,rfl⟩;obtain⟨I,K⟩:=List.mem_filter.1 hi;exact⟨i,List.mem_range.1 I,K,rfl⟩
 ·rintro⟨i,I,K,rfl⟩;exact⟨i,List.mem_filter.2 ⟨List.mem_range.2 I,K⟩,rfl⟩
theorem qAB:∀{vr o:List Int},vr.Nodup->(∀x∈vr,x∈o)->o.length=vr.length->vr.Perm o
 |[],o,_,_,hl=>by
  have:o=[]:=List.length_eq_zero_iff.1 hl;rw[this]
 |a::r,o,hn,hs,hl=>by
  rw[List.nodup_cons]at hn;have I:=hs a List.mem_cons_self;have M:=List.perm_cons_erase I;have O:r.Perm (o.erase a):=qAB hn.2 (λx K=>(List.mem_erase_of_ne (λe=>hn.1 (by rw[<-e];exact K))).2 (hs x (mC _ K))) (by rw[List.length_erase_of_mem I,hl];simp);exact(O.cons a).trans M.symm
def xu(tl:List TbV)(o:List Int):Bool:=decide (o.length=(vrJ tl).length)&&jU (vrJ tl) o
theorem vh:xu tl o=true↔(vrJ tl).Perm o:=by
 unfold xu;rw[bA,dE];constructor
 ·rintro⟨M,I⟩;refine qAB (qCC tl) (λx K=>?_) M;unfold jU at I;rw[bY]at I;exact of_decide_eq_true (I x K)
 ·intro h;refine⟨h.length_eq.symm,?_⟩;unfold jU;rw[bY];exact λx K=>decide_eq_true (h.subset K)
theorem Uu(h:xu tl o=true):QL tl o:=λi hi=>by
 have K:o.getD i 0∈vrJ tl:=(vh.1 h).symm.subset (by rw[gD,bC hi];exact gM hi);obtain⟨k,-,I,M⟩:=jl.1 K;unfold qy at I;obtain⟨t,O,U⟩:=List.any_eq_true.1 I;exact⟨t,O,by rw[<-M];exact of_decide_eq_true U⟩
def zK(t:TbV):Bool:=zd t.vs t.rows t.ws
theorem jm{t:TbV}(h:zK t=true):TvJ t:=by
 obtain⟨I,K,M⟩:=jT h;exact⟨U8 I,K,M⟩
def okJ(tl:List TbV)(o:List Int):Bool:=decide (tl.length<=8)&&tl.all zK&&xu tl o
def yg(tl:List TbV)(o:List Int):List (List Int):=if okJ tl o&&smJ tl o o.length then lvJ tl o o.length else []
def yG(tl:List TbV)(o:List Int):Int:=if okJ tl o&&smJ tl o o.length then (viJ tl o o.length:Int) else -1
theorem qAC(h:okJ tl o=false):yg tl o=[]/\yG tl o=-1:=by
 unfold yg yG;rw[h];exact⟨rfl,rfl⟩
theorem ZN(h:okJ tl o=true):yg tl o=(if smJ tl o o.length then lvJ tl o o.length else [])/\yG tl o=(if smJ tl o o.length then (viJ tl o o.length:Int) else -1):=by
 unfold yg yG;rw[h,Bool.true_and];exact⟨rfl,rfl⟩
theorem Ym(I:j < tl.length)(i:Nat):qy (tl.take (j+1)) i=(qy (tl.take j) i||decide ((i:Int)∈(tl.getD j qC).vs)):=by
 unfold qy;rw[tA,bC I,List.any_append,gD,bC I];simp
theorem qDJ(I:j < tl.length):plc (λi:Nat=>decide ((i:Int)∈vrJ (tl.take j))||decide ((i:Int)∈(tl.getD j qC).vs)) 6=vrJ (tl.take (j+1)):=by
 unfold vrJ plc;congr 1;refine List.filter_congr λi hi=>?_;rw[Ym I];congr 1;rw[Bool.eq_iff_iff,dE];show(i:Int)∈plc (qy (tl.take j)) 6↔_;rw[jl];constructor
 ·rintro⟨k,-,K,M⟩;have:k=i:=Oo;rw[<-this];exact K
 ·intro h;exact⟨i,List.mem_range.1 hi,h,rfl⟩
theorem xW{A X:World}(h:Bl A X)(o:Obj):Bl A (X.alloc o):=h.alloc h.size o
def ISSn(w:World)(v:Value)(ls:List (List Int)):Prop:=∃a cap,v=.slice a ls.length cap/\(ls.length=0∨∃b o,a=some ⟨b,o,none⟩/\∀j,j < ls.length->∃ad c,w.cell? ⟨b,o+j,none⟩=some (.slice (some ad) (ls.getD j []).length c)/\IS w (.slice (some ad) (ls.getD j []).length c) (ls.getD j []))
theorem ISSn.iss(h:ISSn w v ls):ISS w v ls:=by
 obtain⟨a,cap,e,I⟩:=h;refine⟨a,cap,e,?_⟩;rcases I with I|⟨b,o,K,I⟩
 ·exact Or.inl I
 ·refine Or.inr ⟨b,o,K,λj M=>?_⟩;obtain⟨V,c,O,U⟩:=I j M;exact⟨_,O,U⟩
theorem RQ.issn{B:Nat}{us:List Value}(h:RQ W B v us ls)(hp:∀i,i < ls.length->0 < (ls.getD i []).length):ISSn W v ls:=by
 obtain⟨a,cap,e,-⟩:=h.rs.sl;refine⟨a,cap,e,?_⟩;by_cases h0:ls.length=0
 ·exact Or.inl h0
 ·obtain⟨g,O,I,-,-⟩:=h.get (i:=0) Oo;rw[e]at I;simp only[Value.slice.injEq]at I;refine Or.inr ⟨g,0,I.1,λj K=>?_⟩;obtain⟨g2,U,M,-,hc⟩:=h.get K;rw[e]at M;simp only[Value.slice.injEq]at M;have hg:g2=g:=by have:=M.1.symm.trans I.1;simpa using this
  subst hg;have V:=h.each j K;obtain⟨g3,c3,e3,-⟩:=x6 V (hp j K);refine⟨⟨g3,0,none⟩,c3,by rw[Nat.zero_add,hc,e3],?_⟩;rw[<-e3];exact qK V
theorem qF8{I:Addr}{n c:Nat}{l:List Int}(h:IS w (.slice (some I) n c) l):∀j u,(l.map (Value.int .i64))[j]?=some u->w.cell? (I.add j)=some u:=λj u K=>by
 have O:j < l.length:=by
  rcases Nat.lt_or_ge j l.length with h|h
  ·exact h
  ·rw[gN (by simpa using h)]at K;cases K
 obtain⟨a',c',e,M⟩:=h;simp only[Value.slice.injEq]at e;rcases M with h0|⟨b,o,U,M⟩
 ·omega
 ·have V:I=⟨b,o,none⟩:=Option.some.inj (e.1.trans U);rw[V,show((⟨b,o,none⟩:Addr).add j)=⟨b,o+j,none⟩by unfold Addr.add;split <;> simp_all,M j O,<-K,bN,gD,bC O];rfl
theorem ISds.below{W':World}{I:List SdM}(h:ISds W v I)(hb:Bl W W'):ISds W' v I:=by
 obtain⟨a,cap,e,K⟩:=h;refine⟨a,cap,e,K.imp id ?_⟩;rintro⟨b,o,M,O⟩;exact⟨b,o,M,λj U=>(O j U).below hb⟩
def nxL(f:List Int->List Int)(L:List (List Int))(i:Nat):List (List Int):=(L.take i).flatMap λq=>(f q).map λv=>q++[v]
theorem qDN(f:List Int->List Int){L:List (List Int)}{i:Nat}(hi:i < L.length):nxL f L (i+1)=nxL f L i++(f (L.getD i [])).map λv=>L.getD i []++[v]:=by
 unfold nxL;rw[tA,bC hi,List.flatMap_append,gD,bC hi];simp
theorem qFo(f:List Int->List Int)(L:List (List Int))(i:Nat):(nxL f L i).length<=(L.flatMap λq=>(f q).map λv=>q++[v]).length:=by
 have e:L.flatMap (λq=>(f q).map λv=>q++[v])=nxL f L i++(L.drop i).flatMap λq=>(f q).map λv=>q++[v]:=by
  unfold nxL;rw[<-List.flatMap_append,tD]
 rw[e,lA];omega
def mxL(q:List Int)(xs:List Int)(m:Nat):List (List Int):=(xs.take m).map λv=>q++[v]
theorem qDO(h:m < xs.length):mxL q xs (m+1)=mxL q xs m++[q++[xs.getD m 0]]:=by
 unfold mxL;rw[zA h,mA];rfl
theorem qEl(h:m<=xs.length):(mxL q xs m).length=m:=by
 unfold mxL;rw[lM,bZ];omega
theorem Uw(w:World)(vt vo:Value)(tl:List TbV)(o:List Int)(h:ITs w vt tl)(ho:IS w vo o)(hl:tl.length<=1000)(f9:o.length<=1000)(g2:∀t∈tl,TvJ t)(h6:QL tl o):
 Cl 23 #[vt,vo] w λe w'=>∃v,e=.returned (.tuple #[v,.int .i64 (if smJ tl o o.length then (viJ tl o o.length:Int) else -1)])/\Fz w.heap.size (λW=>ISS W v (if smJ tl o o.length then lvJ tl o o.length else [])) w'/\Bl w w':=by
 obtain⟨i0,hi,l6,l7,l8⟩:=info_parts Tryz.infoInt;obtain⟨iS,hj,r9,s1,s2⟩:=info_parts Tryz.infoIS;have g4:=hid (VU w vt vo tl o h ho hl f9 g2);have s3:Hid (∀p,(nxJ tl o p).length<=10000):=hid λp=>qEd g2 p
 have l9:Hid (∀W vS vp p k,Bl w W->ISds W vS (tl.map (sdT o))->IS W vp p->p∈lvJ tl o k->k < o.length->Cl 50 #[vS,vo,vp] W λe w'=>∃g c,e=.returned (.slice (some ⟨g,0,none⟩) (nxJ tl o p).length c)/\w'.ownsRow W.heap.size 3 1 (.slice (some ⟨g,0,none⟩) (nxJ tl o p).length c) (nxJ tl o p).length ((nxJ tl o p).map (Value.int .i64))/\Bl W w'):=hid λW vS vp p k hW hS hp hm hk=>by
  have v3:=Xp p hm;refine Uv W vS vo vp (tl.map (sdT o)) o p hS (ho.below hW) hp Oo f9 (by rw[lM];exact hl) (λs hs=>?_) (qAA p hm) (qGC h6 Oo) (λs hs=>?_)
  ·obtain⟨t,ht,rfl⟩:=List.mem_map.1 hs;exact⟨yh o t,bQ (ud o t) (by have:=(g2 t ht).n;omega),bQ (X9 _ _) f9⟩
  ·obtain⟨t,ht,rfl⟩:=List.mem_map.1 hs;exact qFl Oo
 obtain⟨at',ct,rfl,hc⟩:=h;obtain⟨ao,co,rfl,-⟩:=ho
 have HC:Hid (∀W,Bl w W->∀j,j < tl.length->∃b oo,at'=some ⟨b,oo,none⟩/\TabAt W b (oo+j*3) (tl.getD j qC)):=hid λW hW j hj=>by
  rcases hc with h0|⟨b,oo,rfl,h⟩
  ·omega
  ·exact⟨b,oo,rfl,(h j hj).below hW⟩
 have m0:Hid (∀j,j < tl.length->(tl.take (j+1)).any (λt=>decide (t.rows.length=0))=((tl.take j).any (λt=>decide (t.rows.length=0))||decide ((tl.getD j qC).rows.length=0))):=hid λj hj=>by
  rw[tA,bC hj,List.any_append,gD,bC hj];simp
 have m1:Hid ((tl.take tl.length).any (λt=>decide (t.rows.length=0))=xB tl):=hid (by rw[tL];rfl);have m2:Hid ((tl.take 0).any (λt=>decide (t.rows.length=0))=false):=hid rfl;obtain⟨EM,m3⟩:∃EM:Nat->Bool,EM=λj=>(tl.take j).any (λt=>decide (t.rows.length=0)):=⟨_,rfl⟩;have d0:Hid (EM 0=false/\EM tl.length=xB tl/\∀j,j < tl.length->EM (j+1)=(EM j||decide ((tl.getD j qC).rows.length=0))):=hid (by rw[m3];exact⟨m2.out,m1.out,m0.out⟩);clear m3 m0 m1 m2;obtain⟨n,hn⟩:∃n,n=tl.length:=⟨_,rfl⟩;rw[<-hn]at hl HC d0 g4 ⊢;clear hn hc g2 h6;obtain⟨no,d6⟩:∃no,no=o.length:=⟨_,rfl⟩;rw[<-d6]at f9 l9 g4 ⊢;clear d6;obtain⟨AN,i4⟩:∃AN:Int,AN=(if smJ tl o no then (viJ tl o no:Int) else -1):=⟨_,rfl⟩;obtain⟨AL,i5⟩:∃AL:List (List Int),AL=(if smJ tl o no then lvJ tl o no else []):=⟨_,rfl⟩;rw[<-i4,<-i5];have m4:=hid i4;have m5:=hid i5;clear i4 i5;go_enter Tryz.func23,Tryz.ntmps23
 go_upto_region 2 with (first|(go_at_call 49;refine g4.out.mono ?_;rintro e w1 ⟨vS,rfl,m6,m7⟩)|fail)
 have m8:=hid m6;have i6:=hid m7;obtain⟨aS,cS,rfl,-⟩:=m6;have s4:(tl.map (sdT o)).length=(tl.map (sdT o)).length:=rfl;generalize (tl.map (sdT o)).length=ns at *;clear m7 g4 s4;obtain⟨W2,d7⟩:∃W2,W2=(w1.alloc (.cells #[] 3)).alloc (.cells #[.slice (some ⟨w1.heap.size,0,none⟩) 0 0] 25):=⟨_,rfl⟩;have i7:Bl w1 W2:=by rw[d7];exact xW (xW (bM _ _) _) _
 have m9:Hid (Fz w.heap.size (λW=>ISSn W (.slice (some ⟨w1.heap.size+1,0,none⟩) 1 1) [[]]) W2):=hid λW' s5=>by
  refine⟨_,1,rfl,Or.inr ⟨w1.heap.size+1,0,rfl,λj hj=>?_⟩⟩;obtain rfl:j=0:=by simpa using hj
  refine⟨⟨w1.heap.size,0,none⟩,0,?_,⟨_,0,rfl,Or.inl rfl⟩⟩;have v4:W2.heap.size=w1.heap.size+2:=by rw[d7];simp
  rw[bF (w:=W2) (a:=⟨w1.heap.size+1,0+0,none⟩) (s5 (w1.heap.size+1) (by have:=i6.out.size;omega) Oo),d7,cA _ _ _ _ Ss];rfl
 have i8:=hid (bt i6.out i7);have n3:=hid (m8.out.below i7);clear i7 m8 i6;go_upto_region 3 with fail
 rw[<-d7];clear d7;have n4:Hid (∀j,lvJ tl o (j+1)=(lvJ tl o j).flatMap λq=>(nxJ tl o q).map λv=>q++[v]):=hid λj=>Uq tl o j;have n5:Hid (xB tl=true->lvJ tl o 0=[]):=hid λh=>by unfold lvJ;rw[if_pos h]
 have n6:Hid (xB tl=false->lvJ tl o 0=[[]]):=hid λh=>by unfold lvJ;rw[h];rfl
 have n8:Hid (∀j,∀q∈lvJ tl o j,q.length=j):=hid λj q hq=>Xp q hq;have i9:Hid (smJ tl o 0=true/\(∀j,smJ tl o (j+1)=(smJ tl o j&&decide ((lvJ tl o (j+1)).length<=10000)))/\(∀j k,j < k->¬(lvJ tl o (j+1)).length<=10000->smJ tl o k=false)):=hid ⟨rfl,λj=>ZL tl o j,λj k h1 h2=>Yl h1 h2⟩;have j0:Hid (viJ tl o 0=0/\(∀j,viJ tl o (j+1)=viJ tl o j+(lvJ tl o (j+1)).length)/\∀j,smJ tl o j=true->viJ tl o j<=j*10000):=hid ⟨rfl,λj=>Ur tl o j,λj h=>qCA h⟩;go_upto_block 0 with fail
 go_cut [7] (λv7 wx=>∃vl,vl=v7/\Hid (Fz w.heap.size (λW=>ISSn W vl (lvJ tl o 0)) wx/\Bl W2 wx))
 case first=>
  go_wp2_with fail
  go_loopw [7,23] (λv7 t wr=>∃(j:Nat) (vl:Value),j<=n/\t=.int .i64 j/\vl=v7/\Hid (vl=(if EM j then .slice none 0 0 else .slice (some ⟨w1.heap.size+1,0,none⟩) 1 1)/\Bl W2 wr)) (λ_ t _=>n - (intOf t).toNat)
  case atStart=>exact⟨0,_,nZ _,rfl,rfl,hid ⟨by rw[d0.out.1];rfl,bM _ _⟩⟩
  case round=>
   obtain⟨j,vl,v5,rfl,rfl,O⟩:=hrel;by_cases d8:j < n
   ·have i1:(j:Int) < (n:Int):=Oo;obtain⟨b,oo,ea,v0,v1,v2,c0,c1,c2,hI⟩:=HC.out wr (bt i8.out O.out.2) j d8;subst ea;have HE:=hid (d0.out.2.2 j d8);obtain⟨a0,k0,e0,-⟩:=hI.vs;obtain⟨a1,k1,e1,-⟩:=hI.rows;obtain⟨a2,k2,e2,-⟩:=hI.ws;subst e0 e1 e2;clear hI;generalize (tl.getD j qC).rows.length=nr at *;generalize (tl.getD j qC).vs.length=n0 at *;generalize (tl.getD j qC).ws.length=n2 at *;obtain⟨W3,g5⟩:∃W3,W3=wr.alloc (.cells #[.slice a0 n0 k0,.slice a1 nr k1,.slice a2 n2 k2] 34):=⟨_,rfl⟩;have n9:Bl wr W3:=by rw[g5];exact(bM _ _).alloc (bK _) _
    have d1:W3.cell? ⟨wr.heap.size,1,none⟩=some (.slice a1 nr k1):=by rw[g5,cA _ _ _ _ rfl];rfl
    have g6:=hid (bt O.out.2 n9);have HV:=hid O.out.1;clear n9 O;go_upto_region 6 with fail
    rw[<-g5];clear g5 c0 c1 c2;by_cases hz:nr=0
    ·subst hz;go_wp2_with fail
     go_roundw
     case rel=>first|exact⟨j+1,_,Oo,Gg,rfl,hid ⟨by rw[HE.out];simp,g6.out⟩⟩|((repeat apply Exists.intro);exact⟨⟨j+1,_,Oo,Gg,rfl,hid ⟨by rw[HE.out];simp,g6.out⟩⟩,rfl⟩)
     case measure=>simp[intOf];omega
    ·have q1:((nr:Int) == 0)=false:=by simp;omega
     have o2:Hid (EM (j+1)=EM j):=hid (by rw[HE.out,decide_eq_false hz,Bool.or_false]);go_wp2_with fail
     go_roundw
     case rel=>first|exact⟨j+1,_,Oo,Gg,rfl,hid ⟨by rw[o2.out];exact HV.out,g6.out⟩⟩|((repeat apply Exists.intro);exact⟨⟨j+1,_,Oo,Gg,rfl,hid ⟨by rw[o2.out];exact HV.out,g6.out⟩⟩,rfl⟩)
     case measure=>simp[intOf];omega
   ·obtain rfl:j=n:=Oo;have i1:¬(j:Int) < (j:Int):=Oo
    have HF:Hid (Fz w.heap.size (λW=>ISSn W vl (lvJ tl o 0)) wr/\Bl W2 wr):=hid ⟨by
     rw[O.out.1,d0.out.2.1];by_cases he:xB tl=true
     ·rw[if_pos he,n5.out he];exact λ_ _=>⟨none,0,rfl,Or.inl rfl⟩
     ·rw[if_neg he,n6.out (by simpa using he)];exact m9.out.below O.out.2,O.out.2⟩
    clear O;go_wp2_with fail
    go_meet;exact⟨vl,rfl,HF⟩
 case rest=>
 obtain⟨v6,rfl,HL⟩:=hcut;have o3:=hid (bt i8.out HL.out.2);have s6:=hid (n3.out.below HL.out.2);have o4:=hid HL.out.1;clear HL i8 n3 m9 d0 n5 n6 HC;generalize wc=W4 at *;go_wp2_with fail
 go_loopw [7,10,34] (λv7 v10 t wr=>∃(k vis:Nat) (vl:Value),k<=no/\t=.int .i64 k/\v10=.int .i64 vis/\vl=v7/\Hid (smJ tl o k=true/\vis=viJ tl o k/\Fz w.heap.size (λW=>ISSn W vl (lvJ tl o k)) wr/\Bl W4 wr)) (λ_ _ t _=>no - (intOf t).toNat)
 case atStart=>exact⟨0,0,_,nZ _,rfl,rfl,rfl,hid ⟨i9.out.1,j0.out.1.symm,o4.out,bM _ _⟩⟩
 case round=>
  clear o4;obtain⟨k,vis,vl,hk,rfl,rfl,rfl,O⟩:=hrel;by_cases d8:k < no
  ·have i1:(k:Int) < (no:Int):=Oo;obtain⟨a4,K,c7,a5⟩:=O.out;have v8:vis<=k*10000:=by rw[K];exact j0.out.2.2 k a4
   have o5:=hid a4;have o6:=hid K;have j1:=hid (bt o3.out a5);have o7:=hid a5;have s7:=hid (s6.out.below a5);have g7:=hid c7.self;obtain⟨al,cl,rfl,-⟩:=c7.self;have h7:(lvJ tl o k).length<=10000:=qFj a4;clear O a4 K a5 c7;obtain⟨L,hL⟩:∃L,L=lvJ tl o k:=⟨_,rfl⟩;have j2:Hid (∀i,i < L.length->L.getD i []∈lvJ tl o k):=hid λi hi=>by rw[<-hL,gD,bC hi];exact gM _
   have d9:Hid (lvJ tl o (k+1)=nxL (nxJ tl o) L L.length):=hid (by rw[n4.out,<-hL];unfold nxL;rw[tL]);have o8:Hid (∀i,(nxL (nxJ tl o) L i).length<=(lvJ tl o (k+1)).length):=hid λi=>by rw[n4.out,<-hL];exact qFo _ _ _
   have o9:Hid (∀i,i < L.length->nxL (nxJ tl o) L (i+1)=nxL (nxJ tl o) L i++(nxJ tl o (L.getD i [])).map λv=>L.getD i []++[v]):=hid λi hi=>qDN _ hi;have j3:Hid (∀i,i < L.length->(L.getD i []).length=k):=hid λi hi=>n8.out k _ (j2.out i hi);rw[<-hL]at g7 h7 ⊢;clear hL;obtain⟨nl,j4⟩:∃nl,nl=L.length:=⟨_,rfl⟩;have u4:=hid j4;rw[<-j4]at j2 d9 o9 j3 g7 h7 ⊢
   have p1:Hid (∀W,Bl wr W->∀i,i < nl->∃b oo ad c,al=some ⟨b,oo,none⟩/\W.cell? ⟨b,oo+i,none⟩=some (.slice (some ad) k c)/\IS W (.slice (some ad) k c) (L.getD i [])):=hid λW hW i hi=>by
    obtain⟨a',c',e,hh⟩:=g7.out;simp only[Value.slice.injEq]at e;obtain⟨rfl,-,-⟩:=e;rcases hh with h0|⟨b,oo,ea,hh⟩
    ·omega
    ·obtain⟨ad,c,h1,h2⟩:=hh i Oo;rw[j3.out i hi]at h1 h2;exact⟨b,oo,ad,c,ea,qDM hW h1,h2.below hW⟩
   clear j4 g7;obtain⟨W5,j5⟩:∃W5,W5=wr.alloc (.cells #[] 25):=⟨_,rfl⟩
   have j6:Hid (Bl wr W5/\RQ W5 wr.heap.size (.slice (some ⟨wr.heap.size,0,none⟩) 0 0) [] []):=hid (by
    rw[j5];exact⟨(bM _ _).alloc (bK _) _,oM wr #[] 0 (bK _) Dd rfl,rfl,λi hi=>by simp at hi,λi j _ hj=>by simp at hj⟩)
   go_upto_region 13 with fail
   rw[<-j5];clear j5;generalize wr=wo at *;go_wp2_with fail
   go_loopw [11,39] (λv11 t wr=>∃(i:Nat) (vn:Value),i<=nl/\t=.int .i64 i/\vn=v11/\Hid (∃un,Bl wo wr/\RQ wr wo.heap.size vn un (nxL (nxJ tl o) L i)/\(nxL (nxJ tl o) L i).length<=10000)) (λ_ t _=>nl - (intOf t).toNat)
   case atStart=>exact⟨0,_,nZ _,rfl,rfl,hid ⟨[],j6.out.1,j6.out.2,nZ _⟩⟩
   case round=>
    clear j6;obtain⟨i,vn,v9,rfl,rfl,O⟩:=hrel;obtain⟨un,p2,p3,s8⟩:=O.out;have a6:=hid p2;have e3:=hid p3;clear O p2 p3;by_cases a8:i < nl
    ·have i2:(i:Int) < (nl:Int):=Oo;obtain⟨b,oo,ad,c,ea,e0,e4⟩:=p1.out wo (bM _ _) i a8;subst ea;have e1:=qDM a6.out e0;have p4:=e4.below a6.out;have h8:Hid (∀W,Bl wo W->IS W (.slice (some ad) k c) (L.getD i [])):=hid λW hW=>e4.below hW;clear e0 e4;have e5:=hid (l9.out wr _ _ (L.getD i []) k (bt j1.out a6.out) (s7.out.below a6.out) p4 (j2.out i a8) d8);have a9:=hid (o9.out i a8);have p5:=hid (j3.out i a8);have k4:=s3.out (L.getD i []);obtain⟨q,hq⟩:∃q,q=L.getD i []:=⟨_,rfl⟩;rw[<-hq]at e5 h8 a9 p5 k4;clear hq p4;obtain⟨xs,p6⟩:∃xs,xs=nxJ tl o q:=⟨_,rfl⟩;rw[<-p6]at e5 a9 k4;clear p6;obtain⟨nx,k5⟩:∃nx,nx=xs.length:=⟨_,rfl⟩;have c8:=hid k5;rw[<-k5]at e5 k4;clear k5;generalize wr=wm at *;go_upto_block 6 with (first|(go_at_call 50;refine e5.out.mono ?_;rintro e w6 ⟨gx,cx,rfl,p7,k7⟩)|fail)
     have p8:=hid p7;have s9:=hid (bt a6.out k7);have p9:=hid (e3.out.below k7);clear p7 k7 e5 e1 e3;go_wp2_with fail
     go_loopw [11,48] (λv11 t wr=>∃(m:Nat) (c9:Value),m<=nx/\t=.int .i64 m/\c9=v11/\Hid (∃a7,Bl wo wr/\RQ wr wo.heap.size c9 a7 (nxL (nxJ tl o) L i++mxL q xs m)/\wr.ownsRow wm.heap.size 3 1 (.slice (some ⟨gx,0,none⟩) nx cx) nx (xs.map (Value.int .i64)))) (λ_ t _=>nx - (intOf t).toNat)
     case atStart=>exact⟨0,vn,nZ _,rfl,rfl,hid ⟨un,s9.out,by show RQ _ _ _ _ (_++[]);rw[List.append_nil];exact p9.out,p8.out⟩⟩
     case round=>
      clear p8 p9;obtain⟨m,c9,t0,rfl,rfl,O⟩:=hrel;obtain⟨a7,q0,q3,q4⟩:=O.out;have e6:=hid q0;have e7:=hid q3;have k8:=hid q4;clear O q0 q3 q4;have hlen:(nxL (nxJ tl o) L i++mxL q xs m).length=(nxL (nxJ tl o) L i).length+m:=by rw[lA,qEl (by rw[<-c8.out];exact t0)]
      by_cases e8:m < nx
      ·have i3:(m:Int) < (nx:Int):=Oo
       have w0:wr.cell? ⟨gx,m,none⟩=some (.int .i64 (xs.getD m 0)):=by
        rw[k8.out.cellAt m Oo,bN,bC (by rw[<-c8.out];exact e8),gD,bC (by rw[<-c8.out];exact e8)];rfl
       have q6:=h8.out _ (bt e6.out ((bM _ wr).alloc (bK _) (.cells #[] 3)));have t1:=hid (qF8 q6);have e9:(wr.alloc (.cells #[] 3)).ownsRow wr.heap.size 3 1 (.slice (some ⟨wr.heap.size,0,none⟩) 0 0) 0 []:=oM wr #[] 0 (bK _) Dd rfl;have q7:=hid e9;have t2:wo.heap.size<=wr.heap.size:=e6.out.size;have q8:q.length=k:=p5.out;have t3:=hid (qDO (q:=q) (xs:=xs) (m:=m) (by rw[<-c8.out];exact e8));have w2:k<=1000:=Oo;generalize xs.getD m 0=xv at *;clear q6 e9;have h9:=hid q8;clear q8
       go_wp2_with (first
        |(at_builtin;refine wpList_append_own _ rfl _ _ 25 rfl wr.heap.size 3 i0 (.int .i64 0) 1 8 Tryz.underlying25 hi l6 l7 l8 rfl Dd (.slice (some ⟨wr.heap.size,0,none⟩) 0 0) 0 [] rfl q7.out ad k c (q.map (Value.int .i64)) rfl (by rw[lM,h9.out];omega) t1.out (λu hu=>by obtain⟨x,_,rfl⟩:=List.mem_map.1 hu;rfl) (by unfold maxLen;omega) Oo Ss ?_;intro r0 r1 b0 V _;have f4:r1.ownsRow wr.heap.size 3 1 r0 k (q.map (Value.int .i64)):=(by simpa using b0);have f7:Bl wr r1:=((bM _ wr).alloc (bK _) (.cells #[] 3)).grown V Ss (λk hk=>(q7.out.lt k hk).1);have r2:=f7.size;clear b0 V)
        |(at_builtin;refine wpList_append_lies _ rfl _ _ 25 rfl wr.heap.size 3 i0 (.int .i64 0) 1 8 Tryz.underlying25 hi l6 l7 l8 rfl Dd r0 _ _ rfl (f4.alloc _) ⟨_,0,none⟩ 1 1 [.int .i64 xv] rfl rfl (qH _ _ _) (λu hu=>by simp at hu;subst hu;rfl) Dd (by unfold maxLen;omega) Oo (by simp;omega) _ rfl ?_;intro g8 g9 k9 U a3 l0 l1;have M:Bl wr k9:=(f7.alloc r2 _).grown a3 (by simp;omega) (λk hk=>(f4.lt k hk).1);have u5:=M.size;have b7:k9.ownsRow wo.heap.size 25 1 c9 ((nxL (nxJ tl o) L i).length+m) a7:=by { have:=(e7.out.below M).own;rw[hlen]at this;exact this })
        |(at_builtin;refine wpList_append_lies _ rfl _ _ 24 rfl wo.heap.size 25 iS (.slice none 0 0) 1 24 Tryz.underlying24 hj r9 s1 s2 rfl Dd c9 _ a7 rfl (b7.alloc _) ⟨_,0,none⟩ 1 1 [.slice (some ⟨g8,0,none⟩) (k+1) g9] rfl rfl (qH _ _ _) (λu hu=>by simp at hu;subst hu;rfl) Dd (by unfold maxLen;omega) Oo (by simp;omega) _ rfl ?_;intro t4 t5 l2 b9 I l3 l4)
        |fail)
       have HN:Hid (∃r3,Bl wo l2/\RQ l2 wo.heap.size (.slice (some ⟨t4,0,none⟩) ((nxL (nxJ tl o) L i).length+m+1) t5) r3 (nxL (nxJ tl o) L i++mxL q xs (m+1))/\l2.ownsRow wm.heap.size 3 1 (.slice (some ⟨gx,0,none⟩) nx cx) nx (xs.map (Value.int .i64))):=hid (by
        have r4:=e7.out.below M
        have r5:k9.ownsRow wo.heap.size 3 1 (.slice (some ⟨g8,0,none⟩) (k+1) g9) (q++[xv]).length ((q++[xv]).map (Value.int .i64)):=by
         rw[lA,lS,h9.out,mA];exact qF U t2
        have t6:∀j,j < (nxL (nxJ tl o) L i++mxL q xs m).length->∀g,(a7.getD j undef).ownBlock=some g->(Value.slice (some ⟨g8,0,none⟩) (k+1) g9).ownBlock≠some g:=λj hj g h1 h2=>by
         have a1:=((e7.out.each j hj).lt g h1).2;have a2:=(U.lt g h2).1;omega
        refine⟨a7++[.slice (some ⟨g8,0,none⟩) (k+1) g9],(xW (bt e6.out M) _).grown I (by simp;omega) (λq hq=>(b7.lt q hq).1),?_,?_⟩
        ·rw[t3.out,<-List.append_assoc];have:=r4.step r5 t6 (by rw[hlen];exact b9) I;exact this
        ·have f8:=qB k8.out M;refine qA f8 λg hg=>?_;obtain⟨cur,r6⟩:=qO f8 hg;exact zI I (f8.lt g hg).2 (own_ne b7 ⟨cur,r6⟩ Dd))
       clear b9 I l3 l4 U a3 l0 l1 b7 M f7 f4;go_roundw
       case rel=>exact⟨m+1,_,Oo,Gg,rfl,HN⟩
       case measure=>simp[intOf];omega
      ·obtain rfl:m=nx:=Oo;have i3:¬((m:Int) < (m:Int)):=Oo
       have h5:Hid (RQ wr wo.heap.size c9 a7 (nxL (nxJ tl o) L (i+1))):=hid (by
        rw[a9.out];have:=e7.out;unfold mxL at this;rw[c8.out,tL]at this;exact this)
       have t7:=hid (o8.out (i+1));have l5:(nxL (nxJ tl o) L (i+1)).length=(nxL (nxJ tl o) L i).length+m:=by rw[a9.out,lA,lM,<-c8.out]
       obtain⟨av,cv,ev,-,-⟩:=h5.out.rs.sl;rw[l5]at ev;subst ev;clear e7 k8 hlen;by_cases u6:(nxL (nxJ tl o) L i).length+m<=10000
       ·have q9:¬((10000:Int) < (((nxL (nxJ tl o) L i).length+m:Nat):Int)):=Oo;have HN:Hid (∃un,Bl wo wr/\RQ wr wo.heap.size (.slice av ((nxL (nxJ tl o) L i).length+m) cv) un (nxL (nxJ tl o) L (i+1))/\(nxL (nxJ tl o) L (i+1)).length<=10000):=hid ⟨_,e6.out,h5.out,Oo⟩;clear h5 l5;generalize (nxL (nxJ tl o) L i).length+m=tot at *;go_wp2_with fail
        go_roundw
        case rel=>exact⟨i+1,_,Oo,Gg,rfl,HN⟩
        case measure=>simp[intOf];omega
       ·have q9:((10000:Int) < (((nxL (nxJ tl o) L i).length+m:Nat):Int)):=Oo;have d6:smJ tl o no=false:=i9.out.2.2 k no d8 (by have:=t7.out;omega);have r7:=hid d6;clear l5 h5 d6;generalize (nxL (nxJ tl o) L i).length+m=tot at *;go_wp2_with fail
        go_ret2;exact⟨_,by rw[m4.out,r7.out];rfl,by rw[m5.out,r7.out];exact λ_ _=>⟨_,0,rfl,Or.inl rfl⟩,bt j1.out (xW e6.out _)⟩
    ·obtain rfl:i=nl:=Oo;have i2:¬((i:Int) < (i:Int)):=Oo;obtain⟨av,cv,ev,-,-⟩:=e3.out.rs.sl;subst ev
     have t8:Hid (Fz w.heap.size (λW=>ISSn W (.slice av (nxL (nxJ tl o) L i).length cv) (lvJ tl o (k+1))) wr):=hid (by
      rw[d9.out]
      exact(e3.out.fz.mono j1.out.size).imp λW hW=>hW.issn λj hj=>by
       have hm:(nxL (nxJ tl o) L i).getD j []∈lvJ tl o (k+1):=by rw[d9.out,gD,bC hj];exact gM _
       have:=n8.out (k+1) _ hm;omega)
     have r8:Hid (smJ tl o (k+1)=true/\vis+(nxL (nxJ tl o) L i).length=viJ tl o (k+1)):=hid ⟨by rw[i9.out.2.1,o5.out,Bool.true_and];exact decide_eq_true (by rw[d9.out];exact s8),by rw[j0.out.2.1,o6.out,d9.out]⟩;have t9:=hid (bt o7.out a6.out);clear e3 a6 p1;generalize (nxL (nxJ tl o) L i).length=tot at *;have u9:vis+tot<=100000000:=Oo;go_wp2_with fail
     go_roundw
     case rel=>exact⟨k+1,vis+tot,_,Oo,Gg,by first|rfl|go_num|(rw[Int.natCast_add]),rfl,hid ⟨r8.out.1,r8.out.2,t8.out,t9.out⟩⟩
     case measure=>simp[intOf];omega
  ·obtain rfl:k=no:=Oo;have i1:¬((k:Int) < (k:Int)):=Oo;obtain⟨a4,K,c7,a5⟩:=O.out;have HF:Hid (smJ tl o k=true/\vis=viJ tl o k/\Fz w.heap.size (λW=>ISS W vl (lvJ tl o k)) wr/\Bl w wr):=hid ⟨a4,K,c7.imp λ_ h=>h.iss,bt o3.out a5⟩;clear O a4 K c7 a5;go_wp2_with fail
   go_ret2;obtain⟨h1,h2,h3,h4⟩:=HF.out;exact⟨_,by rw[m4.out,h1,if_pos rfl,<-h2];rfl,by rw[m5.out,h1,if_pos rfl];exact h3,h4⟩
end Go.Proofs.YtkaipapdlnojiaaGreat
