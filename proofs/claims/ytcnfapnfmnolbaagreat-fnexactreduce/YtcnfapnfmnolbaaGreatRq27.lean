import Derived.Carry
import Derived.Deep.Slices
import Derived.Lib.SmallJoins
import Derived.OpenShut
import Derived.ProofKit
import Derived.Test.YtcnfapnfmnolbaaGreatRows
import Derived.Test.YtcnfapnfmnolbaaGreatRq07
import Derived.Test.YtcnfapnfmnolbaaGreatRq26
set_option maxHeartbeats 40000000
set_option maxRecDepth 1000000
namespace Go.Proofs.YtcnfapnfmnolbaaGreat
open Go.ChangeShapes Go.WideShapes Go.ChangeAt Go.RowKit Go.Joins Go.Deep
variable {cs:List Value}{fuel:Nat}{v:Value}
theorem Tryz.ownK:ownKnob Tryz.prog.godebug=none:=Kl
theorem Tryz.laidO:laidOutB Tryz.prog=true:=Kl
theorem Tryz.cellsI:Tryz.prog.cellsOf 3=1:=Kl
theorem Tryz.cellsIS:Tryz.prog.cellsOf 24=1:=Kl
theorem xo{α:Type}(f:Nat->α)(n j:Nat)(d:α)(h:j<n):((List.range n).map f).getD j d=f j:=by
 rw[gD,bK,List.getElem?_range h];rfl
variable {H:Type} {enc:TypeId×Value->H} {W:World}
theorem vK{x:DataW H×List MemPlace}(h:DataW.trod enc Tryz.prog W 0 (λ_=>true) true fuel 24 [v]=some x):
 ∃l,IS W v l/\l.length<=9223372036854775807:=by
 rcases open_slice1 Tryz.underlying24 Tryz.cellsI h with ⟨I,_⟩|⟨a,len,cap,m,n,V,D,Pl,I,_,hl,hm,K,_,M⟩;simp only[List.cons.injEq,and_true]at I;subst I;exact⟨[],⟨_,_,rfl,Or.inl rfl⟩,Ss⟩;simp only[List.cons.injEq,and_true]at I;subst I;rw[if_pos rfl]at K;have O:∀i,i<len->∃z,V i=ai z:=λi hi=>by
  obtain⟨_,h2⟩:=M i Oo;obtain⟨z,e0,_,_⟩:=DataW.trod_int Tryz.underlying3 h2;exact⟨z,by simpa using e0⟩
 have e:∀i,i<len->V i=ai (intOf (V i)):=λi hi=>by
  obtain⟨z,O⟩:=O i hi;rw[O];rfl
 refine⟨(List.range len).map λi=>intOf (V i),⟨some a,cap,Ss,?_⟩,by simp;unfold maxLen at hm;omega⟩;by_cases h0:len=0;left;simp[h0];right;obtain⟨b,o,spot⟩:=a;have hs:spot=none:=World.cell?_spot (M 0 Oo).1;subst hs;refine⟨b,o,rfl,λj U=>?_⟩;simp only[List.length_map,List.length_range]at U;rw[xo _ _ _ _ U,<-e j U];show W.cell? ⟨b,o+j,none⟩=_;rw[<-add_plain];exact(M j Oo).1
theorem Zs{x:DataW H×List MemPlace}(h:DataW.trod enc Tryz.prog W 0 (λ_=>true) true fuel 23 [v]=some x):
 ∃ls,ISS W v ls/\Fits ls:=by
 rcases open_slice1 Tryz.underlying23 Tryz.cellsIS h with ⟨I,_⟩|⟨a,len,cap,m,n,V,D,Pl,I,_,hl,hm,M,_,O⟩;simp only[List.cons.injEq,and_true]at I;subst I;exact⟨[],⟨_,_,rfl,Or.inl rfl⟩,Ss,λj=>Ss⟩;simp only[List.cons.injEq,and_true]at I;subst I;rw[if_pos rfl]at M;have hz:∀i,i<len->∃l,IS W (V i) l/\l.length<=9223372036854775807:=λi hi=>by
  obtain⟨_,h2⟩:=O i Oo;exact vK h2
 obtain⟨L,U⟩:=choose_lt (α:=LI) hz;refine⟨(List.range len).map L,⟨some a,cap,Ss,?_⟩,by simp;unfold maxLen at hm;omega,λj=>?_⟩
 ·by_cases h0:len=0;left;simp[h0];right;obtain⟨b,o,spot⟩:=a;have hs:spot=none:=World.cell?_spot (O 0 Oo).1;subst hs;refine⟨b,o,rfl,λj K=>?_⟩;simp only[List.length_map,List.length_range]at K;refine⟨V j,?_,?_⟩;show W.cell? ⟨b,o+j,none⟩=_;rw[<-add_plain];exact(O j Oo).1;rw[xo _ _ _ _ K];exact(U j K).1
 by_cases K:j<len;rw[xo _ _ _ _ K];exact(U j K).2;rw[gD,gN (by simpa using K)];simp
theorem Tryz.cellsISS:Tryz.prog.cellsOf 23=1:=Kl
theorem Tryz.cellsR:Tryz.prog.cellsOf 27=2:=Kl
theorem Tryz.cellsRS:Tryz.prog.cellsOf 25=1:=Kl
theorem Tryz.cellsPl:Tryz.prog.cellsOf 29=6:=Kl
theorem qGS{α:Type}{l:List α}(h:l.length=6):∃a b c d e f,l=[a,b,c,d,e,f]:=by
 match l,h with
 |[a,b,c,d,e,f],_=>exact⟨a,b,c,d,e,f,rfl⟩
theorem qGT{α:Type}{l:List α}(h:l.length=2):∃a b,l=[a,b]:=by
 match l,h with
 |[a,b],_=>exact⟨a,b,rfl⟩
theorem qFE{a:Array Value}(h:a.size=6):∃v0 v1 v2 v3 v4 v5,a=#[v0,v1,v2,v3,v4,v5]:=by
 obtain⟨l⟩:=a;match l,h with
 |[v0,v1,v2,v3,v4,v5],_=>exact⟨v0,v1,v2,v3,v4,v5,rfl⟩
section
variable {H:Type} {P:Program} {w:World} {enc:TypeId×Value->H} {base:Nat} {spare:Nat->Bool} {held:Bool}
theorem qCn{t:TypeId}{f0 f1 f2 f3 f4:Field}{x:DataW H×List MemPlace}(O:P.underlying t=some (.struct #[f0,f1,f2,f3,f4]))(h:DataW.trod enc P w base spare held fuel t cs=some x):
 ∃y0 y1 y2 K M n,cs.length=P.cellsOf t/\DataW.trod enc P w base spare held n f0.type ((cs.drop f0.offset).take (P.cellsOf f0.type))=some y0/\
  DataW.trod enc P w base spare held n f1.type ((cs.drop f1.offset).take (P.cellsOf f1.type))=some y1/\DataW.trod enc P w base spare held n f2.type ((cs.drop f2.offset).take (P.cellsOf f2.type))=some y2/\
  DataW.trod enc P w base spare held n f3.type ((cs.drop f3.offset).take (P.cellsOf f3.type))=some K/\DataW.trod enc P w base spare held n f4.type ((cs.drop f4.offset).take (P.cellsOf f4.type))=some M:=by
 obtain⟨xs,n,_,rfl,hl,hlen,I⟩:=DataW.trod_struct O h;match xs,hlen with
 |[y0,y1,y2,K,M],_=>exact⟨y0,y1,y2,K,M,n,hl,by simpa using I 0 f0 rfl,by simpa using I 1 f1 rfl,by simpa using I 2 f2 rfl,by simpa using I 3 f3 rfl,by simpa using I 4 f4 rfl⟩
end
variable {H:Type} {enc:TypeId×Value->H} {W:World}
theorem Zt{x:DataW H×List MemPlace}(h:DataW.trod enc Tryz.prog W 0 (λ_=>true) true fuel 27 cs=some x):
 ∃r:Int×Int,cs=[ai r.1,ai r.2]:=by
 obtain⟨y0,y1,n,_,hlen,I,K⟩:=trod_struct2 Tryz.underlying27 h;rw[Tryz.cellsR]at hlen;obtain⟨c0,c1,rfl⟩:=qGT hlen;simp only[Tryz.cellsI,List.drop_zero,List.drop_succ_cons,List.take_succ_cons,List.take_zero]at I K;obtain⟨s,M,_,hs⟩:=DataW.trod_int Tryz.underlying3 I;obtain⟨z,O,_,U⟩:=DataW.trod_int Tryz.underlying3 K;simp only[List.cons.injEq,and_true]at M O;subst M O;exact⟨(s,z),rfl⟩
theorem JI{x:DataW H×List MemPlace}(h:DataW.trod enc Tryz.prog W 0 (λ_=>true) true fuel 25 [v]=some x):
 ∃O,IR W v O/\O.length<=9223372036854775807:=by
 rcases open_slice Tryz.underlying25 h with ⟨I,_⟩|⟨a,len,cap,m,n,D,Pl,I,_,hl,hm,K,_,hV⟩;simp only[List.cons.injEq,and_true]at I;subst I;exact⟨[],⟨_,_,rfl,Or.inl rfl⟩,Ss⟩;simp only[List.cons.injEq,and_true]at I;subst I;rw[if_pos rfl]at K;have hz:∀i,i<len->∃r:Int×Int,(W.cell? (a.add (i*2))=some (ai r.1)/\W.cell? ((a.add (i*2)).add 1)=some (ai r.2))/\True:=λi hi=>by
  obtain⟨a3,U,h2⟩:=hV i Oo;rw[Tryz.cellsR]at U;obtain⟨_,hlen,V⟩:=World.cells?_some U;obtain⟨r,rfl⟩:=Zt h2;have e0:=V 0 Oo;have e1:=V 1 Oo;exact⟨r,⟨by simpa[Addr.add]using e0,e1⟩,trivial⟩
 obtain⟨L,hL⟩:=choose_lt (α:=Int×Int) hz;refine⟨(List.range len).map L,⟨some a,cap,Ss,?_⟩,by simp;unfold maxLen at hm;omega⟩;by_cases h0:len=0;left;simp[h0];right;obtain⟨b,o,spot⟩:=a;have hs:spot=none:=World.cell?_spot (hL 0 Oo).1.1;subst hs;refine⟨b,o,rfl,λj M=>?_⟩;simp only[List.length_map,List.length_range]at M;rw[xo _ _ _ _ M];obtain⟨⟨c0,c1⟩,_⟩:=hL j M;rw[add_plain]at c0;rw[add_plain,add_plain]at c1;exact⟨c0,c1⟩
theorem JJ{x:DataW H×List MemPlace}(h:DataW.trod enc Tryz.prog W 0 (λ_=>true) true fuel 29 cs=some x):
 ∃v0 v1 v2 v3 a b bs ps hs ws,cs=[v0,v1,v2,v3,ai a,ai b]/\IPl W v0 v1 v2 v3 bs ps hs ws/\Fits bs/\ps.length<=9223372036854775807/\hs.length<=9223372036854775807/\ws.length<=9223372036854775807:=by
 obtain⟨y0,y1,y2,y3,y4,n,hlen,I,K,M,O,U⟩:=qCn Tryz.underlying29 h;rw[Tryz.cellsPl]at hlen;obtain⟨c0,c1,c2,c3,c4,c5,rfl⟩:=qGS hlen;simp only[Tryz.cellsIS,Tryz.cellsISS,Tryz.cellsRS,Tryz.cellsR,List.drop_zero,List.drop_succ_cons,List.take_succ_cons,List.take_zero]at I K M O U;obtain⟨bs,V,f0⟩:=Zs I;obtain⟨ps,i1,f1⟩:=vK K;obtain⟨hs,i2,f2⟩:=vK M;obtain⟨ws,i3,f3⟩:=JI O;obtain⟨r,e⟩:=Zt U;simp only[List.cons.injEq,and_true]at e;obtain⟨rfl,rfl⟩:=e;exact⟨c0,c1,c2,c3,r.1,r.2,bs,ps,hs,ws,rfl,⟨V,i1,i2,i3⟩,f0,f1,f2,f3⟩
variable {H:Type} {enc:TypeId×Value->H} {W:World}
theorem Tryz.cellsTabL:Tryz.prog.cellsOf 47=3:=Kl
theorem Tryz.cellsISS6:Tryz.prog.cellsOf 23=1:=Kl
theorem qG0{α:Type}{l:List α}(h:l.length=3):∃a b c,l=[a,b,c]:=by
 match l,h with
 |[a,b,c],_=>exact⟨a,b,c,rfl⟩
theorem qAR{x:DataW H×List MemPlace}(h:DataW.trod enc Tryz.prog W 0 (λ_=>true) true fuel 47 cs=some x):
 ∃v0 v1 v2 t,cs=[v0,v1,v2]/\IT W v0 v1 v2 t.vs t.rows t.ws/\TvF t:=by
 obtain⟨y0,y1,y2,n,_,hlen,I,K,M⟩:=trod_struct3 Tryz.underlying47 h;rw[Tryz.cellsTabL]at hlen;obtain⟨c0,c1,c2,rfl⟩:=qG0 hlen;simp only[Tryz.cellsISS6,Tryz.cellsIS,List.drop_zero,List.drop_succ_cons,List.take_succ_cons,List.take_zero]at I K M;obtain⟨vs,O,f0⟩:=vK I;obtain⟨rows,U,f1⟩:=Zs K;obtain⟨ws,V,f2⟩:=vK M;exact⟨c0,c1,c2,⟨vs,rows,ws⟩,rfl,⟨O,U,V⟩,⟨f0,f1,f2⟩⟩
theorem JK{x:DataW H×List MemPlace}(h:DataW.trod enc Tryz.prog W 0 (λ_=>true) true fuel 22 [v]=some x):
 ∃tl,ITs W v tl/\tl.length<=9223372036854775807/\∀t∈tl,TvF t:=by
 rcases open_slice Tryz.underlying22 h with ⟨I,_⟩|⟨a,len,cap,m,n,D,Pl,I,_,hl,hm,O,_,hV⟩;simp only[List.cons.injEq,and_true]at I;subst I;exact⟨[],⟨_,_,rfl,Or.inl rfl⟩,Ss,λt U=>by cases U⟩;simp only[List.cons.injEq,and_true]at I;subst I;rw[if_pos rfl]at O;have hz:∀i,i<len->∃t:TbV,(∃v0 v1 v2,W.cell? (a.add (i*3))=some v0/\W.cell? ((a.add (i*3)).add 1)=some v1/\W.cell? ((a.add (i*3)).add 2)=some v2/\IT W v0 v1 v2 t.vs t.rows t.ws)/\TvF t:=λi hi=>by
  obtain⟨a3,h1,h2⟩:=hV i Oo;rw[Tryz.cellsTabL]at h1;obtain⟨_,hlen,V⟩:=World.cells?_some h1;obtain⟨v0,v1,v2,t,rfl,K,hf⟩:=qAR h2;have e0:=V 0 Oo;have e1:=V 1 Oo;have e2:=V 2 Oo;exact⟨t,⟨v0,v1,v2,by simpa[Addr.add]using e0,e1,e2,K⟩,hf⟩
 have inh:Inhabited TbV:=⟨qA⟩
 obtain⟨L,hL⟩:=choose_lt (α:=TbV) hz;refine⟨(List.range len).map L,⟨some a,cap,Ss,?_⟩,by simp;unfold maxLen at hm;omega,λt U=>?_⟩
 ·by_cases h0:len=0;left;simp[h0];right;obtain⟨b,o,spot⟩:=a;have hs:spot=none:=by
   obtain⟨⟨v0,v1,v2,c0,_⟩,_⟩:=hL 0 Oo;exact World.cell?_spot c0
  subst hs;refine⟨b,o,rfl,λj M=>?_⟩;simp only[List.length_map,List.length_range]at M;rw[xo _ _ _ _ M];obtain⟨⟨v0,v1,v2,c0,c1,c2,K⟩,_⟩:=hL j M;rw[add_plain]at c0;rw[add_plain,add_plain]at c1 c2;exact⟨v0,v1,v2,c0,c1,c2,K⟩
 obtain⟨j,M,rfl⟩:=List.mem_map.1 U;exact(hL j (List.mem_range.1 M)).2
end Go.Proofs.YtcnfapnfmnolbaaGreat
